/- moved 11. moved 11. moved 11. moved 11. moved 11. SpaceLast 4. -/
import Derived.Test.YtgbpbfnpeeciaaaXk
import Derived.Test.YtgbpbfnpeeciaaaXl0
import Derived.Test.YtgbpbfnpeeciaaaXl5
namespace Go.Proofs.Ytgbpbfnpeeciaaa
open Go.RowKit
set_option maxRecDepth 100000
set_option maxHeartbeats 40000000
theorem moved_pa (W : World) (p : Dp) (d : DS) (G : Int → Int → Int) (h : DB W p d) (hI : Inv d G) (B : List (Int × Mp)) (hB : Bk B G) (ao : Option Addr) (cc base : Nat) (hO : W.ownsRow base 53 5 (.slice ao B.length cc) B.length (flat B)) (hbs : base ≤ W.heap.size) (x : Mv) (hcut : x.cut = false) (v0 : 0 ≤ x.va) (v1 : x.va < 4294967296) (h1 : x.va < 1073741824) (h2 : x.va % 4 = 0) (h3 : ¬ x.va / 4194304 = 0) (h5 : ¬ x.va / 4194304 = 5) :
    Calls Try.prog 11 #[ptr p.g, .slice ao B.length cc, .agg #[.bool x.cut, .int .u32 x.va, .bool x.m.s, .int .i64 x.m.p, .bool x.m.wr, .bool x.m.ex]] W fun y W' => ∃ ao' cc' B' d' G', y = .returned (.tuple #[.slice ao' (List.length B') cc', .bool true]) ∧ W'.ownsRow base 53 5 (.slice ao' B'.length cc') B'.length (flat B') ∧ Bk B' G' ∧ Inv d' G' ∧ DB W' p d' ∧ ButL p.f.w W W' := by
  have D0 := hid ((DG.startw h).new 42 [.bool x.cut, .int .u32 x.va, .bool x.m.s, .int .i64 x.m.p, .bool x.m.wr, .bool x.m.ex])
  have HF := hid (fun w (hw : w.ownsRow base 53 5 (.slice ao B.length cc) B.length (flat B)) => find_l w ao cc base B hw hB.len (pgv x.va))
  have HOw := hid (fun w (hw : ButL p.f.w W w) => own_butE hO h hw)
  have HCu := hid (fun w (hw : DB w p d) => cut_any w p d hw hI.mf.U 0 x.va v0 v1)
  have HPu := hid (fun w (hw : DB w p d) => put_any w p d hw hI.mf.U 0 x.va x.m v0 v1)
  have HTu := hid (fun w => turned_l w x.m)
  have HSe := hid (fun w => second_any w x.m)
  have ea := and_not12 x.va v0 v1
  have e3 := and_low2 x.va v0 v1
  have HBl := hid hB.len
  have hBl : (B.length : Int) ≤ 6144 := by have := HBl.out; omega
  have HIv := hid hI
  have HBk := hid hB
  have HO := hid hO
  have HV := hid (And.intro v0 v1)
  have HBs := hid hbs
  have hpl := pos_le B (pgv x.va)
  clear h hO hI hB hbs
  simp only [ptr, Mp.v] at *
  rw [hcut] at D0
  have hb3 : (x.va / 4194304 == 0) = false := by simp [h3]
  have hb5 : (x.va / 4194304 == 5) = false := by simp [h5]
  have hm := mvNoT HIv.out HV.out.1 ⟨h1, h2⟩ h3 h5
  rw [(hm.2.2 x.m).1] at HPu
  have HMm := hid hm
  clear hm h3 h5
  go_enter Try.func11, Try.ntmps11
  go_upto_region 1 with fail
  generalize World.alloc _ _ = X at *
  generalize hg : W.heap.size = g5 at D0 ⊢
  have HG := hid hg
  clear hg
  have c0 := (D0.out.get 0 rfl).cell 0
  have c1 := (D0.out.get 0 rfl).cell 1
  simp only [List.getElem?_cons_zero, List.getElem?_cons_succ] at c0 c1
  go_upto_region 3 with (first | (go_at_call 15; refine (HF.out _ (HOw.out _ D0.out.but)).mono ?_; rintro y w1 ⟨rfl, hb⟩; have D1 := hid (D0.out.on hb); clear hb))
  clear D0 c0 c1 HF
  have c0 := (D1.out.get 0 rfl).cell 0
  have c1 := (D1.out.get 0 rfl).cell 1
  simp only [List.getElem?_cons_zero, List.getElem?_cons_succ] at c0 c1
  go_upto_region 13 with (first | (go_at_call 17; refine (HTu.out _).mono ?_; rintro y w2 ⟨rfl, hb⟩; have D2 := hid ((D1.out.on hb).new 49 [.bool x.m.s, .int .i64 x.m.p, .bool x.m.wr, .bool x.m.ex]); have HN2 : Hid (w2.heap.size ≠ g5) := hid (fun e => by have := ((D1.out.on hb).get 0 rfl).lt; omega); clear hb) | (refine wpList_load_gm rfl 40 _ rfl g5 2 rfl _ _ (Cel.mv (x := ⟨false, x.va, x.m⟩) (D1.out.get 0 rfl)) under40 rfl size40 ?_))
  generalize w2.alloc _ = w3 at *
  generalize w2.heap.size = g15 at *
  clear D1 c0 c1
  have c1 := (D2.out.get 1 rfl).cell 1
  simp only [List.getElem?_cons_zero, List.getElem?_cons_succ] at c1
  go_upto_region 15 with (first | (go_at_call 34; refine (HSe.out _).mono ?_; rintro y w4 ⟨rfl, hb⟩; have D3 := hid (D2.out.on hb); have c2 := ((D2.out.on hb).get 1 rfl).cell 1; simp only [List.getElem?_cons_zero, List.getElem?_cons_succ] at c2; clear hb) | (go_at_call 18; refine (HPu.out _ D3.out.db).mono ?_; rintro y w5 ⟨rfl, hd, hb⟩; have D4 := hid (D3.out.step hd hb (fun _ hk => hk)); clear hd hb) | (refine wpList_load_g rfl 49 _ rfl g15 rfl (D3.out.get 0 rfl) rfl under49 size49 ?_) | (refine wpList_load_g rfl 49 _ rfl g15 rfl (D2.out.get 0 rfl) rfl under49 size49 ?_))
  clear D2 D3 c1 c2
  go_wp2_with fail
  go_returns
  exact ⟨ao, cc, B, _, G, rfl, HOw.out _ D4.out.but, HBk.out, (HMm.out.2.2 x.m).2, D4.out.db, D4.out.but⟩
end Go.Proofs.Ytgbpbfnpeeciaaa
namespace Go.Proofs.Ytgbpbfnpeeciaaa
open Go.RowKit
set_option maxRecDepth 100000
set_option maxHeartbeats 40000000
theorem moved_pb (W : World) (p : Dp) (d : DS) (G : Int → Int → Int) (h : DB W p d) (hI : Inv d G) (B : List (Int × Mp)) (hB : Bk B G) (ao : Option Addr) (cc base : Nat) (hO : W.ownsRow base 53 5 (.slice ao B.length cc) B.length (flat B)) (hbs : base ≤ W.heap.size) (x : Mv) (hcut : x.cut = false) (v0 : 0 ≤ x.va) (v1 : x.va < 4294967296) (h1 : x.va < 1073741824) (h2 : ¬ x.va % 4 = 0) :
    Calls Try.prog 11 #[ptr p.g, .slice ao B.length cc, .agg #[.bool x.cut, .int .u32 x.va, .bool x.m.s, .int .i64 x.m.p, .bool x.m.wr, .bool x.m.ex]] W fun y W' => ∃ ao' cc' B' d' G', y = .returned (.tuple #[.slice ao' (List.length B') cc', .bool true]) ∧ W'.ownsRow base 53 5 (.slice ao' B'.length cc') B'.length (flat B') ∧ Bk B' G' ∧ Inv d' G' ∧ DB W' p d' ∧ ButL p.f.w W W' := by
  have D0 := hid ((DG.startw h).new 42 [.bool x.cut, .int .u32 x.va, .bool x.m.s, .int .i64 x.m.p, .bool x.m.wr, .bool x.m.ex])
  have HF := hid (fun w (hw : w.ownsRow base 53 5 (.slice ao B.length cc) B.length (flat B)) => find_l w ao cc base B hw hB.len (pgv x.va))
  have HOw := hid (fun w (hw : ButL p.f.w W w) => own_butE hO h hw)
  have HCu := hid (fun w (hw : DB w p d) => cut_any w p d hw hI.mf.U 0 x.va v0 v1)
  have HPu := hid (fun w (hw : DB w p d) => put_any w p d hw hI.mf.U 0 x.va x.m v0 v1)
  have HTu := hid (fun w => turned_l w x.m)
  have HSe := hid (fun w => second_any w x.m)
  have ea := and_not12 x.va v0 v1
  have e3 := and_low2 x.va v0 v1
  have HBl := hid hB.len
  have hBl : (B.length : Int) ≤ 6144 := by have := HBl.out; omega
  have HIv := hid hI
  have HBk := hid hB
  have HO := hid hO
  have HV := hid (And.intro v0 v1)
  have HBs := hid hbs
  have hpl := pos_le B (pgv x.va)
  clear h hO hI hB hbs
  simp only [ptr, Mp.v] at *
  rw [hcut] at D0
  have hb2 : (x.va % 4 == 0) = false := by simp [h2]
  have hm := mvBad HIv.out HV.out.1 (fun h => h2 h.2)
  rw [(hm.2.2 x.m).1] at HPu
  have HMm := hid hm
  clear hm h2
  go_enter Try.func11, Try.ntmps11
  go_upto_region 1 with fail
  generalize World.alloc _ _ = X at *
  generalize hg : W.heap.size = g5 at D0 ⊢
  have HG := hid hg
  clear hg
  have c0 := (D0.out.get 0 rfl).cell 0
  have c1 := (D0.out.get 0 rfl).cell 1
  simp only [List.getElem?_cons_zero, List.getElem?_cons_succ] at c0 c1
  go_upto_region 3 with (first | (go_at_call 15; refine (HF.out _ (HOw.out _ D0.out.but)).mono ?_; rintro y w1 ⟨rfl, hb⟩; have D1 := hid (D0.out.on hb); clear hb))
  clear D0 c0 c1 HF
  have c0 := (D1.out.get 0 rfl).cell 0
  have c1 := (D1.out.get 0 rfl).cell 1
  simp only [List.getElem?_cons_zero, List.getElem?_cons_succ] at c0 c1
  go_upto_region 12 with fail
  go_upto_region 13 with (first | (go_at_call 17; refine (HTu.out _).mono ?_; rintro y w2 ⟨rfl, hb⟩; have D2 := hid ((D1.out.on hb).new 49 [.bool x.m.s, .int .i64 x.m.p, .bool x.m.wr, .bool x.m.ex]); have HN2 : Hid (w2.heap.size ≠ g5) := hid (fun e => by have := ((D1.out.on hb).get 0 rfl).lt; omega); clear hb) | (refine wpList_load_gm rfl 40 _ rfl g5 2 rfl _ _ (Cel.mv (x := ⟨false, x.va, x.m⟩) (D1.out.get 0 rfl)) under40 rfl size40 ?_))
  generalize w2.alloc _ = w3 at *
  generalize w2.heap.size = g15 at *
  clear D1 c0 c1
  have c1 := (D2.out.get 1 rfl).cell 1
  simp only [List.getElem?_cons_zero, List.getElem?_cons_succ] at c1
  go_upto_region 15 with (first | (go_at_call 34; refine (HSe.out _).mono ?_; rintro y w4 ⟨rfl, hb⟩; have D3 := hid (D2.out.on hb); have c2 := ((D2.out.on hb).get 1 rfl).cell 1; simp only [List.getElem?_cons_zero, List.getElem?_cons_succ] at c2; clear hb) | (go_at_call 18; refine (HPu.out _ D3.out.db).mono ?_; rintro y w5 ⟨rfl, hd, hb⟩; have D4 := hid (D3.out.step hd hb (fun _ hk => hk)); clear hd hb) | (refine wpList_load_g rfl 49 _ rfl g15 rfl (D3.out.get 0 rfl) rfl under49 size49 ?_) | (refine wpList_load_g rfl 49 _ rfl g15 rfl (D2.out.get 0 rfl) rfl under49 size49 ?_))
  clear D2 D3 c1 c2
  go_wp2_with fail
  go_returns
  exact ⟨ao, cc, B, _, G, rfl, HOw.out _ D4.out.but, HBk.out, (HMm.out.2.2 x.m).2, D4.out.db, D4.out.but⟩
end Go.Proofs.Ytgbpbfnpeeciaaa
namespace Go.Proofs.Ytgbpbfnpeeciaaa
open Go.RowKit
set_option maxRecDepth 100000
set_option maxHeartbeats 40000000
theorem moved_pc (W : World) (p : Dp) (d : DS) (G : Int → Int → Int) (h : DB W p d) (hI : Inv d G) (B : List (Int × Mp)) (hB : Bk B G) (ao : Option Addr) (cc base : Nat) (hO : W.ownsRow base 53 5 (.slice ao B.length cc) B.length (flat B)) (hbs : base ≤ W.heap.size) (x : Mv) (hcut : x.cut = false) (v0 : 0 ≤ x.va) (v1 : x.va < 4294967296) (h1 : ¬ x.va < 1073741824) :
    Calls Try.prog 11 #[ptr p.g, .slice ao B.length cc, .agg #[.bool x.cut, .int .u32 x.va, .bool x.m.s, .int .i64 x.m.p, .bool x.m.wr, .bool x.m.ex]] W fun y W' => ∃ ao' cc' B' d' G', y = .returned (.tuple #[.slice ao' (List.length B') cc', .bool true]) ∧ W'.ownsRow base 53 5 (.slice ao' B'.length cc') B'.length (flat B') ∧ Bk B' G' ∧ Inv d' G' ∧ DB W' p d' ∧ ButL p.f.w W W' := by
  have D0 := hid ((DG.startw h).new 42 [.bool x.cut, .int .u32 x.va, .bool x.m.s, .int .i64 x.m.p, .bool x.m.wr, .bool x.m.ex])
  have HF := hid (fun w (hw : w.ownsRow base 53 5 (.slice ao B.length cc) B.length (flat B)) => find_l w ao cc base B hw hB.len (pgv x.va))
  have HOw := hid (fun w (hw : ButL p.f.w W w) => own_butE hO h hw)
  have HCu := hid (fun w (hw : DB w p d) => cut_any w p d hw hI.mf.U 0 x.va v0 v1)
  have HPu := hid (fun w (hw : DB w p d) => put_any w p d hw hI.mf.U 0 x.va x.m v0 v1)
  have HTu := hid (fun w => turned_l w x.m)
  have HSe := hid (fun w => second_any w x.m)
  have ea := and_not12 x.va v0 v1
  have e3 := and_low2 x.va v0 v1
  have HBl := hid hB.len
  have hBl : (B.length : Int) ≤ 6144 := by have := HBl.out; omega
  have HIv := hid hI
  have HBk := hid hB
  have HO := hid hO
  have HV := hid (And.intro v0 v1)
  have HBs := hid hbs
  have hpl := pos_le B (pgv x.va)
  clear h hO hI hB hbs
  simp only [ptr, Mp.v] at *
  rw [hcut] at D0
  have h1p : (1073741824 : Int) ≤ x.va := by omega
  have hm := mvBad HIv.out HV.out.1 (fun h => h1 h.1)
  rw [(hm.2.2 x.m).1] at HPu
  have HMm := hid hm
  clear hm h1
  go_enter Try.func11, Try.ntmps11
  go_upto_region 1 with fail
  generalize World.alloc _ _ = X at *
  generalize hg : W.heap.size = g5 at D0 ⊢
  have HG := hid hg
  clear hg
  have c0 := (D0.out.get 0 rfl).cell 0
  have c1 := (D0.out.get 0 rfl).cell 1
  simp only [List.getElem?_cons_zero, List.getElem?_cons_succ] at c0 c1
  go_upto_region 3 with (first | (go_at_call 15; refine (HF.out _ (HOw.out _ D0.out.but)).mono ?_; rintro y w1 ⟨rfl, hb⟩; have D1 := hid (D0.out.on hb); clear hb))
  clear D0 c0 c1 HF
  have c0 := (D1.out.get 0 rfl).cell 0
  have c1 := (D1.out.get 0 rfl).cell 1
  simp only [List.getElem?_cons_zero, List.getElem?_cons_succ] at c0 c1
  go_upto_region 12 with fail
  go_upto_region 13 with (first | (go_at_call 17; refine (HTu.out _).mono ?_; rintro y w2 ⟨rfl, hb⟩; have D2 := hid ((D1.out.on hb).new 49 [.bool x.m.s, .int .i64 x.m.p, .bool x.m.wr, .bool x.m.ex]); have HN2 : Hid (w2.heap.size ≠ g5) := hid (fun e => by have := ((D1.out.on hb).get 0 rfl).lt; omega); clear hb) | (refine wpList_load_gm rfl 40 _ rfl g5 2 rfl _ _ (Cel.mv (x := ⟨false, x.va, x.m⟩) (D1.out.get 0 rfl)) under40 rfl size40 ?_))
  generalize w2.alloc _ = w3 at *
  generalize w2.heap.size = g15 at *
  clear D1 c0 c1
  have c1 := (D2.out.get 1 rfl).cell 1
  simp only [List.getElem?_cons_zero, List.getElem?_cons_succ] at c1
  go_upto_region 15 with (first | (go_at_call 34; refine (HSe.out _).mono ?_; rintro y w4 ⟨rfl, hb⟩; have D3 := hid (D2.out.on hb); have c2 := ((D2.out.on hb).get 1 rfl).cell 1; simp only [List.getElem?_cons_zero, List.getElem?_cons_succ] at c2; clear hb) | (go_at_call 18; refine (HPu.out _ D3.out.db).mono ?_; rintro y w5 ⟨rfl, hd, hb⟩; have D4 := hid (D3.out.step hd hb (fun _ hk => hk)); clear hd hb) | (refine wpList_load_g rfl 49 _ rfl g15 rfl (D3.out.get 0 rfl) rfl under49 size49 ?_) | (refine wpList_load_g rfl 49 _ rfl g15 rfl (D2.out.get 0 rfl) rfl under49 size49 ?_))
  clear D2 D3 c1 c2
  go_wp2_with fail
  go_returns
  exact ⟨ao, cc, B, _, G, rfl, HOw.out _ D4.out.but, HBk.out, (HMm.out.2.2 x.m).2, D4.out.db, D4.out.but⟩
end Go.Proofs.Ytgbpbfnpeeciaaa
namespace Go.Proofs.Ytgbpbfnpeeciaaa
open Go.RowKit
set_option maxRecDepth 100000
set_option maxHeartbeats 40000000
theorem moved_p (W : World) (p : Dp) (d : DS) (G : Int → Int → Int) (h : DB W p d) (hI : Inv d G) (B : List (Int × Mp)) (hB : Bk B G) (ao : Option Addr) (cc base : Nat) (hO : W.ownsRow base 53 5 (.slice ao B.length cc) B.length (flat B)) (hbs : base ≤ W.heap.size) (x : Mv) (hcut : x.cut = false) (v0 : 0 ≤ x.va) (v1 : x.va < 4294967296) :
    Calls Try.prog 11 #[ptr p.g, .slice ao B.length cc, .agg #[.bool x.cut, .int .u32 x.va, .bool x.m.s, .int .i64 x.m.p, .bool x.m.wr, .bool x.m.ex]] W fun y W' => ∃ ao' cc' B' d' G', y = .returned (.tuple #[.slice ao' (List.length B') cc', .bool true]) ∧ W'.ownsRow base 53 5 (.slice ao' B'.length cc') B'.length (flat B') ∧ Bk B' G' ∧ Inv d' G' ∧ DB W' p d' ∧ ButL p.f.w W W' := by
  by_cases h1 : x.va < 1073741824
  · by_cases h2 : x.va % 4 = 0
    · by_cases h3 : x.va / 4194304 = 0
      · exact moved_p0 W p d G h hI B hB ao cc base hO hbs x hcut h1 h2 h3 v0 v1
      · by_cases h5 : x.va / 4194304 = 5
        · exact moved_p5 W p d G h hI B hB ao cc base hO hbs x hcut h1 h2 h3 h5 v0 v1
        · exact moved_pa W p d G h hI B hB ao cc base hO hbs x hcut v0 v1 h1 h2 h3 h5
    · exact moved_pb W p d G h hI B hB ao cc base hO hbs x hcut v0 v1 h1 h2
  · exact moved_pc W p d G h hI B hB ao cc base hO hbs x hcut v0 v1 h1
end Go.Proofs.Ytgbpbfnpeeciaaa
namespace Go.Proofs.Ytgbpbfnpeeciaaa
open Go.RowKit
theorem moved_l (W : World) (p : Dp) (d : DS) (G : Int → Int → Int) (h : DB W p d) (hI : Inv d G) (B : List (Int × Mp)) (hB : Bk B G) (ao : Option Addr) (cc base : Nat) (hO : W.ownsRow base 53 5 (.slice ao B.length cc) B.length (flat B)) (hbs : base ≤ W.heap.size) (x : Mv) (v0 : 0 ≤ x.va) (v1 : x.va < 4294967296) :
    Calls Try.prog 11 #[ptr p.g, .slice ao B.length cc, .agg #[.bool x.cut, .int .u32 x.va, .bool x.m.s, .int .i64 x.m.p, .bool x.m.wr, .bool x.m.ex]] W fun y W' => ∃ ao' cc' B' d' G', y = .returned (.tuple #[.slice ao' (List.length B') cc', .bool true]) ∧ W'.ownsRow base 53 5 (.slice ao' B'.length cc') B'.length (flat B') ∧ Bk B' G' ∧ Inv d' G' ∧ DB W' p d' ∧ ButL p.f.w W W' := by
  cases hcut : x.cut with
  | true => have := moved_c W p d G h hI B hB ao cc base hO hbs x hcut v0 v1; rwa [hcut] at this
  | false => have := moved_p W p d G h hI B hB ao cc base hO hbs x hcut v0 v1; rwa [hcut] at this
end Go.Proofs.Ytgbpbfnpeeciaaa
namespace Go.Proofs.Ytgbpbfnpeeciaaa
open Go.RowKit
set_option maxRecDepth 100000
set_option maxHeartbeats 20000000
theorem last_at {d : DS} {G : Int → Int → Int} {B : List (Int × Mp)} (hI : Inv d G) (hB : Bk B G) {x : Int × Mp} (hx : x ∈ B) (j : Int) (j0 : 0 ≤ j) (j1 : j < 1024) : (0 ≤ x.1 + 4 * j ∧ x.1 + 4 * j < 4294967296) ∧ d.atE 0 (x.1 + 4 * j) = (if x.2.rdb = true then 0 else 90) ∧ d.atM 0 (x.1 + 4 * j) = (if x.2.rdb = true then x.2 else Mp.z) := by
  have hk := (hB.key x hx).1
  obtain ⟨a, b, c⟩ := hk
  have hk := (hB.key x hx).1
  have v0 : 0 ≤ x.1 + 4 * j := by omega
  have hv : VaOk (x.1 + 4 * j) := by unfold VaOk; omega
  have hpg : pgv (x.1 + 4 * j) = x.1 := by unfold pgv; omega
  obtain ⟨hs, hi⟩ := vaok_sp hv
  have hT : HasT (x.1 + 4 * j) := by unfold HasT; rw [hi]; omega
  obtain ⟨_, hb, hc⟩ := pgv_key v0 hs hT
  rw [hpg] at hb hc
  obtain ⟨e1, e2⟩ := hI.atE v0
  obtain ⟨r1, r2⟩ := (hB.read hI.mf hk).2 x hx rfl
  rw [hb, hc] at r1 r2
  refine ⟨⟨v0, by omega⟩, ?_, ?_⟩
  · rw [e1, if_pos hs, if_pos hT, r1]
  · rw [e2, if_pos ⟨hs, hT⟩, r2]
theorem last_no {d : DS} {G : Int → Int → Int} {B : List (Int × Mp)} (hI : Inv d G) (hB : Bk B G) {va : Int} (v0 : 0 ≤ va) (hn : isIn B (pgv va) = false) : d.atE 0 va ≠ 0 := by
  intro he
  rw [(hI.atE v0).1] at he
  by_cases hs : spE va = 0
  · by_cases hT : HasT va
    · rw [if_pos hs, if_pos hT] at he
      obtain ⟨hk, hb, hc⟩ := pgv_key v0 hs hT
      rw [← hb, ← hc] at he
      obtain ⟨x, hx, e, _⟩ := (hB.read hI.mf hk).1.1 he
      have := (isIn_iff hB.srt (pgv va)).2 ⟨x, hx, e⟩
      rw [hn] at this
      cases this
    · rw [if_pos hs, if_neg hT] at he; exact absurd he (by decide)
  · rw [if_neg hs] at he; exact absurd he (by decide)
theorem row_mp {w : World} {g k : Nat} {x : Int × Mp} (h : w.rangeAt g (k * 5) (atC x)) : w.cell? ⟨g, k * 5, none⟩ = some (.int .u32 x.1) ∧ w.rangeAt g (k * 5 + 1) [.bool x.2.s, .int .i64 x.2.p, .bool x.2.wr, .bool x.2.ex] :=
  ⟨h 0 _ rfl, fun j v hv => by
    have := h (j + 1) v (by simpa [atC] using hv)
    rw [← this]
    congr 2
    omega⟩
/-- What stays while the book is gone through. -/
structure LS (W wr : World) (p : Dp) (d : DS) (ao : Option Addr) (cc : Nat) (B : List (Int × Mp)) (al : Option Addr) (cl : Nat) (A : List (Int × Mp)) : Prop where
  db : ∃ c, NewDB W wr p (d.wc c)
  bk : wr.ownsRow W.heap.size 53 5 (.slice ao B.length cc) B.length (flat B)
  ls : wr.ownsRow W.heap.size 55 5 (.slice al A.length cl) A.length (flat A)
theorem own_on {w w' : World} {b : Nat} {e : TypeId} {n : Nat} {v : Value} {L : List Value} (h : w.ownsRow b e 5 v n L) (hb : Below w.heap.size w w') : w'.ownsRow b e 5 v n L :=
  ⟨h.1, h.2.imp id fun ⟨g, cap, cur, hv, a1, a2, a3⟩ => ⟨g, cap, cur, hv, a1, (hb.block g (Array.getElem?_eq_some_iff.1 a2).1).trans a2, a3⟩⟩
theorem LS.on {W wr w' : World} {p : Dp} {d : DS} {ao al : Option Addr} {cc cl : Nat} {A B : List (Int × Mp)} (h : LS W wr p d ao cc B al cl A) (hb : Below wr.heap.size wr w') : LS W w' p d ao cc B al cl A := by
  obtain ⟨c, hc⟩ := h.db
  exact ⟨⟨c, hc.on hb⟩, own_on h.bk hb, own_on h.ls hb⟩
theorem LS.at {W wr w' : World} {p : Dp} {d d' : DS} {c' : Int} {ao al : Option Addr} {cc cl : Nat} {A B : List (Int × Mp)} (h : LS W wr p d ao cc B al cl A) (hd : DB w' p d') (he : d' = d.wc c') (hb : ButL p.f.w wr w') : LS W w' p d ao cc B al cl A := by
  obtain ⟨c, hc⟩ := h.db
  exact ⟨⟨c', hc.step (he ▸ hd) hb⟩, own_butE h.bk hc.db hb, own_but h.ls hc.db hb⟩
/-- At, of a state that is as it was but for the meter. -/
theorem at_wc (w : World) (p : Dp) (d : DS) (c : Int) (h : DB w p (d.wc c)) (hU : d.m.U) (va : Int) (v0 : 0 ≤ va) (v1 : va < 4294967296) : Calls Try.prog 13 #[ptr p.g, .int .i64 0, .int .u32 va] w fun x w' => ∃ c', x = .returned (.tuple #[(d.atM 0 va).v, .int .i64 (d.atE 0 va)]) ∧ DB w' p (d.wc c') ∧ ButL p.f.w w w' := by
  refine (at_any2 w p (d.wc c) h hU 0 va v0 v1).mono ?_
  rintro x w' ⟨rfl, hd, hb⟩
  obtain ⟨c', hc'⟩ := (d.wc c).look_wc 0 va
  exact ⟨c', rfl, by rw [hc'] at hd; exact hd, hb⟩
theorem last_l (W : World) (ao0 : Option Addr) (n cp : Nat) (q : Nat → Mv) (hq : MvAt W ao0 n q) (hn : (n : Int) ≤ 4611686018427387904) :
    Calls Try.prog 4 #[.slice ao0 n cp] W fun x W' => x = .returned (.bool true) ∧ Below W.heap.size W W' := by
  have HB := hid (built_l W)
  have HQ := hid hq
  clear hq
  simp only [ptr] at HB
  go_enter Try.func4, Try.ntmps4
  go_upto_region 4 with (first | (go_at_call 10; refine HB.out.mono ?_; rintro x w1 ⟨p, rfl, hN⟩; have HN := hid hN; clear hN))
  clear HB
  go_wp2_with fail
  go_loopw [4, 5, 6] (fun bk ok i wr => ∃ (k : Nat) (d : DS) (G : Int → Int → Int) (B : List (Int × Mp)) (ao : Option Addr) (cc : Nat), k ≤ n ∧ bk = .slice ao B.length cc ∧ ok = .bool true ∧ i = .int .i64 (k : Int) ∧ Hid (NewDB W wr p d ∧ Inv d G ∧ Bk B G ∧ wr.ownsRow W.heap.size 53 5 (.slice ao B.length cc) B.length (flat B))) (fun _ _ i _ => n - (intOf i).toNat)
  case atStart => exact ⟨0, dB6, _, [], none, 0, Nat.zero_le _, rfl, rfl, rfl, hid ⟨HN.out, dB6_inv, Bk.nil, World.ownsRow_nil _ _ _ _⟩⟩
  case round =>
    obtain ⟨k, d, G, B, ao, cc, hk, rfl, rfl, rfl, HD⟩ := hrel
    clear HN
    by_cases hlt : k < n
    · have q1 : (k : Int) < (n : Int) := by omega
      have q2 : (k : Int) ≤ 4611686018427387904 := by omega
      obtain ⟨g, off, rfl, hgl, hr⟩ := HQ.out.at_ (by omega)
      have HR := hid (rangeAt_on (hr k hlt) hgl HD.out.1.below)
      have HV := hid (HQ.out.v k hlt)
      have HK : Hid (k < n) := hid hlt
      clear hlt hgl hr hk
      unfold Mv.cs at HR
      have HMo := hid (moved_l wr p d G HD.out.1.db HD.out.2.1 B HD.out.2.2.1 ao cc W.heap.size HD.out.2.2.2 HD.out.1.below.size (q k) HV.out.1 HV.out.2)
      have HNd := hid HD.out.1
      clear HD
      simp only [ptr] at HMo
      go_wp2_with (first | (go_at_call 11; refine HMo.out.mono ?_; rintro y w2 ⟨ao', cc', B', d', G', rfl, ho, hB', hI', hd, hb⟩; have HD2 := hid (And.intro (HNd.out.step hd hb) (And.intro hI' (And.intro hB' ho))); clear ho hB' hI' hd hb) | (refine wpList_load_mid rfl 42 _ rfl g (off + k * 6) rfl _ _ HR.out under42 rfl (by rw [size42]; rfl) ?_))
      go_roundw
      case measure => have := HK.out; simp [intOf] <;> omega
      case rel => exact ⟨k + 1, d', G', B', ao', cc', by have := HK.out; omega, rfl, rfl, by simp, HD2⟩
    · have hkn : (n : Int) ≤ (k : Int) := by omega
      clear hlt hk
      have HD1 := hid HD.out.1
      have HI := hid HD.out.2.1
      have HBk := hid HD.out.2.2.1
      have HOb := hid HD.out.2.2.2
      clear HD
      have HLs := hid (fun w (hw : DB w p d) => list0_l w p d G hw HI.out)
      rw [lsn_eq HI.out HBk.out] at HLs
      simp only [ptr] at HLs
      have hBl : (B.length : Int) ≤ 6144 := by have := HBk.out.len; omega
      have HAl := hid (List.length_filter_le (fun x : Int × Mp => x.2.rdb) B)
      generalize hA : B.filter (fun x => x.2.rdb) = A at *
      have HA := hid hA
      clear hA
      have hAl : (A.length : Int) ≤ 6144 := by have := HAl.out; omega
      go_upto_region 15 with (first | (go_at_call 12; refine (HLs.out _ HD1.out.db).mono ?_; rintro y w3 ⟨al, cl, c1, rfl, ho, hd, hb⟩; have HS : Hid (LS W w3 p d ao cc B al cl A) := hid ⟨⟨c1, HD1.out.step hd hb⟩, own_butE HOb.out HD1.out.db hb, ⟨ho.1, ho.2.imp id fun ⟨g, cap, cur, hv, a1, a2⟩ => ⟨g, cap, cur, hv, Nat.le_trans HD1.out.below.size a1, a2⟩⟩⟩; clear ho hd hb HLs))
      clear HD1 HOb
      go_wp2_with fail
      go_loopw [9, 10] (fun nn i wr2 => ∃ k2 : Nat, k2 ≤ B.length ∧ nn = .int .i64 (((B.take k2).filter (fun x => x.2.rdb)).length : Int) ∧ i = .int .i64 (k2 : Int) ∧ Hid (LS W wr2 p d ao cc B al cl A)) (fun _ i _ => B.length - (intOf i).toNat)
      case atStart => exact ⟨0, Nat.zero_le _, rfl, rfl, HS⟩
      case round =>
        obtain ⟨k2, hk2, rfl, rfl, HS2⟩ := hrel
        clear HS
        by_cases hlt : k2 < B.length
        · have q1 : (k2 : Int) < (B.length : Int) := by omega
          have q3 : 0 ≤ (k2 : Int) % 1024 ∧ (k2 : Int) % 1024 < 1024 := by omega
          have HK2 : Hid (k2 < B.length) := hid hlt
          obtain ⟨x, hx⟩ : ∃ x, B[k2]? = some x := ⟨_, List.getElem?_eq_getElem hlt⟩
          obtain ⟨hva, hE, hM⟩ := last_at HI.out HBk.out (List.mem_of_getElem? hx) ((k2 : Int) % 1024) q3.1 q3.2
          obtain ⟨x0, x1, _⟩ := (HBk.out.key x (List.mem_of_getElem? hx)).1
          have hw4 : ((4 * ((k2 : Int) % 1024)) % 4294967296) = 4 * ((k2 : Int) % 1024) := by omega
          obtain ⟨g2, rfl⟩ : ∃ g2, ao = some ⟨g2, 0, none⟩ := by
            rcases own_sm HS2.out.bk with ⟨_, hn2⟩ | ⟨g2, cap, hv, _⟩
            · rw [hn2] at hlt; simp at hlt
            · injection hv with hv; exact ⟨g2, hv⟩
          obtain ⟨r1, r2⟩ := row_mp (own_rowE HS2.out.bk k2 x hx)
          have HRx := hid (fun w (h : LS W w p d (some ⟨g2, 0, none⟩) cc B al cl A) => row_mp (own_rowE h.bk k2 x hx))
          have HAt := hid (fun w (c : Int) (hw : DB w p (d.wc c)) => at_wc w p d c hw HI.out.mf.U (x.1 + 4 * ((k2 : Int) % 1024)) hva.1 hva.2)
          rw [hE, hM] at HAt
          have HRd := hid (fun w => readable_l w x.2)
          obtain ⟨c2, hc2⟩ := HS2.out.db
          have HD2 := hid hc2
          simp only [ptr, Mp.v] at HAt HRd
          have hx1 : x.1 < 1073741824 := (HBk.out.key x (List.mem_of_getElem? hx)).1.sp.2.2
          obtain ⟨q4, q5⟩ := q3
          cases hr : x.2.rdb with
          | false =>
            have HNo := hid (filter_no (fun x : Int × Mp => x.2.rdb) B k2 x hx hr)
            rw [hr] at HAt HRd
            simp only [Bool.false_eq_true, if_false] at HAt
            clear hx hlt hk2 hE hM hr
            go_upto_region 20 with (first | (go_at_call 13; refine (HAt.out _ c2 HD2.out.db).mono ?_; rintro y w5 ⟨c3, rfl, hd, hb⟩; have HS3 := hid ((HS2.out.at hd rfl hb).on (below_one w5 (.cells #[.bool Mp.z.s, .int .i64 Mp.z.p, .bool Mp.z.wr, .bool Mp.z.ex] 49))); clear hd hb))
            clear HS2 HD2 r1 r2 hc2 c2
            generalize w5.alloc _ = w6 at *
            have r := HRx.out _ HS3.out
            have HR2 := hid r.2
            go_wp2_with (first | (go_at_call 14; refine (HRd.out _).mono ?_; rintro y w7 ⟨rfl, hb⟩; have HS4 := hid (HS3.out.on hb); clear hb) | (refine wpList_load_gm rfl 49 _ rfl g2 (k2 * 5 + 1) rfl _ _ HR2.out under49 rfl size49 ?_))
            go_roundw
            case measure => have := HK2.out; simp [intOf] <;> omega
            case rel => exact ⟨k2 + 1, HK2.out, by rw [HNo.out], by simp, HS4⟩
          | true =>
            obtain ⟨f1, f2⟩ := filter_at (fun x : Int × Mp => x.2.rdb) B k2 x hx hr
            rw [HA.out] at f1
            have HNo := hid f2
            rw [hr] at HAt HRd
            simp only [if_true] at HAt
            have hnl := (List.getElem?_eq_some_iff.1 f1).1
            obtain ⟨gl, rfl⟩ : ∃ gl, al = some ⟨gl, 0, none⟩ := by
              rcases own_row HS2.out.ls _ x f1 with ⟨gl, e, _⟩
              exact ⟨gl, e⟩
            have HRl := hid (fun w (h : LS W w p d (some ⟨g2, 0, none⟩) cc B (some ⟨gl, 0, none⟩) cl A) => row_mp (own_rowE h.ls _ x f1))
            clear hx hlt hk2 hE hM hr f1 f2
            generalize ((B.take k2).filter (fun x => x.2.rdb)).length = N at *
            have q6 : (N : Int) < (A.length : Int) := by omega
            go_upto_region 20 with (first | (go_at_call 13; refine (HAt.out _ c2 HD2.out.db).mono ?_; rintro y w5 ⟨c3, rfl, hd, hb⟩; have HS3 := hid ((HS2.out.at hd rfl hb).on (below_one w5 (.cells #[.bool x.2.s, .int .i64 x.2.p, .bool x.2.wr, .bool x.2.ex] 49))); have HC3 := hid (Cel.new w5 49 [.bool x.2.s, .int .i64 x.2.p, .bool x.2.wr, .bool x.2.ex]); clear hd hb))
            clear HS2 HD2 r1 r2 hc2 c2
            generalize w5.alloc _ = w6 at *
            generalize w5.heap.size = g11 at *
            have r := HRx.out _ HS3.out
            have HR2 := hid r.2
            go_upto_region 23 with (first | (go_at_call 14; refine (HRd.out _).mono ?_; rintro y w7 ⟨rfl, hb⟩; have HS4 := hid (HS3.out.on hb); have HC4 := hid (HC3.out.on hb); clear hb) | (refine wpList_load_gm rfl 49 _ rfl g2 (k2 * 5 + 1) rfl _ _ HR2.out under49 rfl size49 ?_))
            clear HS3 HC3 HR2 r
            obtain ⟨r1, hr2⟩ := HRx.out _ HS4.out
            obtain ⟨r3, hr4⟩ := HRl.out _ HS4.out
            have HR2 := hid hr2
            have HR4 := hid hr4
            clear hr2 hr4
            have HS7 := hid (HS4.out.on (Below.refl _ _).drew)
            have HS6 := hid (And.intro (HC4.out.on (Below.refl _ _).drew) (And.intro (rangeAt_dr HR2.out) (And.intro (show w7.drew.cell? _ = _ from r1) (And.intro (rangeAt_dr HR4.out) (show w7.drew.cell? _ = _ from r3)))))
            refine wp_region_held_drew (S := fun w => Cel w g11 49 [.bool x.2.s, .int .i64 x.2.p, .bool x.2.wr, .bool x.2.ex] ∧ w.rangeAt g2 (k2 * 5 + 1) [.bool x.2.s, .int .i64 x.2.p, .bool x.2.wr, .bool x.2.ex] ∧ w.cell? ⟨g2, k2 * 5, none⟩ = some (.int .u32 x.1) ∧ w.rangeAt gl (N * 5 + 1) [.bool x.2.s, .int .i64 x.2.p, .bool x.2.wr, .bool x.2.ex] ∧ w.cell? ⟨gl, N * 5, none⟩ = some (.int .u32 x.1)) (by kernel_rfl) HS6.out (fun hHeld => ?_)
            generalize World.drew _ = w8 at *
            refine wpAnyH_take (i := 0) (oi := { dst := some 79, op := Op.move (Operand.tmp 12), type := 27, pos := "outright.go:139", after := #[], guard := none }) (v := .int .i64 0) rfl (by kernel_rfl) (by kernel_rfl) (by kernel_rfl) (fun _ _ _ h => h) (Or.inl ⟨by rfl, by intro w hSw; go_simp⟩) (by assumption) ?_
            simp only [Act.put, List.setIfInBounds_toArray, List.set_cons_zero, List.set_cons_succ]
            refine wpAnyH_take (i := 1) (oi := { dst := some 80, op := Op.binOp BinOp.neq 3 (Operand.tmp 79) (Operand.const (Value.int IntKind.i64 0)) 3, type := 4, pos := "outright.go:139", after := #[{ on := 0, ground := Ground.data }], guard := none }) (v := .bool false) rfl (by kernel_rfl) (by kernel_rfl) (by kernel_rfl) (fun _ _ _ h => h) (Or.inl ⟨by rfl, by intro w hSw; go_simp⟩) (by assumption) ?_
            simp only [Act.put, List.setIfInBounds_toArray, List.set_cons_zero, List.set_cons_succ]
            refine wpAnyH_take (i := 2) (oi := { dst := some 81, op := Op.move (Operand.tmp 80), type := 4, pos := "outright.go:139", after := #[{ on := 1, ground := Ground.data }], guard := none }) (v := .bool false) rfl (by kernel_rfl) (by kernel_rfl) (by kernel_rfl) (fun _ _ _ h => h) (Or.inl ⟨by rfl, by intro w hSw; go_simp⟩) (by assumption) ?_
            simp only [Act.put, List.setIfInBounds_toArray, List.set_cons_zero, List.set_cons_succ]
            refine wpAnyH_take (i := 3) (oi := { dst := some 82, op := Op.load 49 (Operand.tmp 11), type := 49, pos := "outright.go:139", after := #[{ on := 2, ground := Ground.guard }], guard := some (2, false) }) (v := .agg #[.bool x.2.s, .int .i64 x.2.p, .bool x.2.wr, .bool x.2.ex]) rfl (by kernel_rfl) (by kernel_rfl) (by kernel_rfl) (fun _ _ _ h => h) (yieldsIf_load_mid (by rfl) _ _ rfl _ _ rfl _ _ (fun w hSw => hSw.1.range) under49 rfl (by rw [size49]; rfl)) (by assumption) ?_
            simp only [Act.put, List.setIfInBounds_toArray, List.set_cons_zero, List.set_cons_succ]
            refine wpAnyH_take (i := 4) (oi := { dst := some 83, op := Op.move (Operand.tmp 4), type := 36, pos := "outright.go:139", after := #[{ on := 2, ground := Ground.guard }], guard := some (2, false) }) (v := .slice (some ⟨g2, 0, none⟩) B.length cc) rfl (by kernel_rfl) (by kernel_rfl) (by kernel_rfl) (fun _ _ _ h => h) (Or.inl ⟨by rfl, by intro w hSw; go_simp⟩) (by assumption) ?_
            simp only [Act.put, List.setIfInBounds_toArray, List.set_cons_zero, List.set_cons_succ]
            refine wpAnyH_take (i := 5) (oi := { dst := some 84, op := Op.move (Operand.tmp 10), type := 3, pos := "outright.go:139", after := #[{ on := 2, ground := Ground.guard }], guard := some (2, false) }) (v := .int .i64 (k2 : Int)) rfl (by kernel_rfl) (by kernel_rfl) (by kernel_rfl) (fun _ _ _ h => h) (Or.inl ⟨by rfl, by intro w hSw; go_simp⟩) (by assumption) ?_
            simp only [Act.put, List.setIfInBounds_toArray, List.set_cons_zero, List.set_cons_succ]
            refine wpAnyH_take (i := 6) (oi := { dst := some 85, op := Op.indexAddr 36 (Operand.tmp 83) (Operand.tmp 84), type := 0, pos := "outright.go:139", after := #[{ on := 4, ground := Ground.data }, { on := 5, ground := Ground.data }, { on := 2, ground := Ground.guard }], guard := some (2, false) }) (v := .pointer (some ⟨g2, k2 * 5, none⟩)) rfl (by kernel_rfl) (by kernel_rfl) (by kernel_rfl) (fun _ _ _ h => h) (Or.inl ⟨by rfl, by intro w hSw; go_simp⟩) (by assumption) ?_
            simp only [Act.put, List.setIfInBounds_toArray, List.set_cons_zero, List.set_cons_succ]
            refine wpAnyH_take (i := 7) (oi := { dst := some 86, op := Op.fieldAddr 53 (Operand.tmp 85) 1, type := 0, pos := "outright.go:139", after := #[{ on := 6, ground := Ground.data }, { on := 2, ground := Ground.guard }], guard := some (2, false) }) (v := .pointer (some ⟨g2, k2 * 5 + 1, none⟩)) rfl (by kernel_rfl) (by kernel_rfl) (by kernel_rfl) (fun _ _ _ h => h) (Or.inl ⟨by rfl, by intro w hSw; go_simp⟩) (by assumption) ?_
            simp only [Act.put, List.setIfInBounds_toArray, List.set_cons_zero, List.set_cons_succ]
            refine wpAnyH_take (i := 8) (oi := { dst := some 87, op := Op.load 49 (Operand.tmp 86), type := 49, pos := "outright.go:139", after := #[{ on := 7, ground := Ground.data }, { on := 2, ground := Ground.guard }], guard := some (2, false) }) (v := .agg #[.bool x.2.s, .int .i64 x.2.p, .bool x.2.wr, .bool x.2.ex]) rfl (by kernel_rfl) (by kernel_rfl) (by kernel_rfl) (fun _ _ _ h => h) (yieldsIf_load_mid (by rfl) _ _ rfl _ _ rfl _ _ (fun w hSw => hSw.2.1) under49 rfl (by rw [size49]; rfl)) (by assumption) ?_
            simp only [Act.put, List.setIfInBounds_toArray, List.set_cons_zero, List.set_cons_succ]
            refine wpAnyH_take (i := 9) (oi := { dst := some 88, op := Op.binOp BinOp.neq 49 (Operand.tmp 82) (Operand.tmp 87) 49, type := 4, pos := "outright.go:139", after := #[{ on := 3, ground := Ground.data }, { on := 8, ground := Ground.data }, { on := 2, ground := Ground.guard }], guard := some (2, false) }) (v := .bool false) rfl (by kernel_rfl) (by kernel_rfl) (by kernel_rfl) (fun _ _ _ h => h) (Or.inl ⟨by rfl, by intro w hSw; go_simp⟩) (by assumption) ?_
            simp only [Act.put, List.setIfInBounds_toArray, List.set_cons_zero, List.set_cons_succ]
            refine wpAnyH_take (i := 10) (oi := { dst := some 89, op := Op.pick (Operand.tmp 81) (Operand.const (Value.bool true)) (Operand.tmp 88), type := 4, pos := "outright.go:139", after := #[{ on := 2, ground := Ground.data }, { on := 9, ground := Ground.data }], guard := none }) (v := .bool false) rfl (by kernel_rfl) (by kernel_rfl) (by kernel_rfl) (fun _ _ _ h => h) (Or.inl ⟨by rfl, by intro w hSw; go_simp⟩) (by assumption) ?_
            simp only [Act.put, List.setIfInBounds_toArray, List.set_cons_zero, List.set_cons_succ]
            refine wpAnyH_take (i := 11) (oi := { dst := some 90, op := Op.move (Operand.tmp 89), type := 4, pos := "outright.go:139", after := #[{ on := 10, ground := Ground.data }, { on := 2, ground := Ground.chain }], guard := none }) (v := .bool false) rfl (by kernel_rfl) (by kernel_rfl) (by kernel_rfl) (fun _ _ _ h => h) (Or.inl ⟨by rfl, by intro w hSw; go_simp⟩) (by assumption) ?_
            simp only [Act.put, List.setIfInBounds_toArray, List.set_cons_zero, List.set_cons_succ]
            refine wpAnyH_take (i := 12) (oi := { dst := some 91, op := Op.move (Operand.tmp 9), type := 3, pos := "outright.go:139", after := #[{ on := 11, ground := Ground.guard }], guard := some (11, false) }) (v := .int .i64 (N : Int)) rfl (by kernel_rfl) (by kernel_rfl) (by kernel_rfl) (fun _ _ _ h => h) (Or.inl ⟨by rfl, by intro w hSw; go_simp⟩) (by assumption) ?_
            simp only [Act.put, List.setIfInBounds_toArray, List.set_cons_zero, List.set_cons_succ]
            refine wpAnyH_take (i := 13) (oi := { dst := some 92, op := Op.move (Operand.tmp 7), type := 43, pos := "outright.go:139", after := #[{ on := 11, ground := Ground.guard }], guard := some (11, false) }) (v := .slice (some ⟨gl, 0, none⟩) A.length cl) rfl (by kernel_rfl) (by kernel_rfl) (by kernel_rfl) (fun _ _ _ h => h) (Or.inl ⟨by rfl, by intro w hSw; go_simp⟩) (by assumption) ?_
            simp only [Act.put, List.setIfInBounds_toArray, List.set_cons_zero, List.set_cons_succ]
            refine wpAnyH_take (i := 14) (oi := { dst := some 93, op := Op.call { callee := Callee.builtin Builtin.len, args := #[Operand.tmp 92], argTypes := #[43] }, type := 3, pos := "outright.go:139", after := #[{ on := 13, ground := Ground.data }, { on := 11, ground := Ground.guard }], guard := some (11, false) }) (v := .int .i64 (A.length : Int)) rfl (by kernel_rfl) (by kernel_rfl) (by kernel_rfl) (fun _ _ _ h => h) (Or.inl ⟨by rfl, by intro w hSw; go_simp⟩) (by assumption) ?_
            simp only [Act.put, List.setIfInBounds_toArray, List.set_cons_zero, List.set_cons_succ]
            refine wpAnyH_take (i := 15) (oi := { dst := some 94, op := Op.binOp BinOp.geq 3 (Operand.tmp 91) (Operand.tmp 93) 3, type := 4, pos := "outright.go:139", after := #[{ on := 12, ground := Ground.data }, { on := 14, ground := Ground.data }, { on := 11, ground := Ground.guard }], guard := some (11, false) }) (v := .bool false) rfl (by kernel_rfl) (by kernel_rfl) (by kernel_rfl) (fun _ _ _ h => h) (Or.inl ⟨by rfl, by intro w hSw; go_simp⟩) (by assumption) ?_
            simp only [Act.put, List.setIfInBounds_toArray, List.set_cons_zero, List.set_cons_succ]
            refine wpAnyH_take (i := 16) (oi := { dst := some 95, op := Op.pick (Operand.tmp 90) (Operand.const (Value.bool true)) (Operand.tmp 94), type := 4, pos := "outright.go:139", after := #[{ on := 11, ground := Ground.data }, { on := 15, ground := Ground.data }], guard := none }) (v := .bool false) rfl (by kernel_rfl) (by kernel_rfl) (by kernel_rfl) (fun _ _ _ h => h) (Or.inl ⟨by rfl, by intro w hSw; go_simp⟩) (by assumption) ?_
            simp only [Act.put, List.setIfInBounds_toArray, List.set_cons_zero, List.set_cons_succ]
            refine wpAnyH_take (i := 17) (oi := { dst := some 96, op := Op.move (Operand.tmp 95), type := 4, pos := "outright.go:139", after := #[{ on := 16, ground := Ground.data }, { on := 11, ground := Ground.chain }], guard := none }) (v := .bool false) rfl (by kernel_rfl) (by kernel_rfl) (by kernel_rfl) (fun _ _ _ h => h) (Or.inl ⟨by rfl, by intro w hSw; go_simp⟩) (by assumption) ?_
            simp only [Act.put, List.setIfInBounds_toArray, List.set_cons_zero, List.set_cons_succ]
            refine wpAnyH_take (i := 18) (oi := { dst := some 97, op := Op.move (Operand.tmp 7), type := 43, pos := "outright.go:139", after := #[{ on := 17, ground := Ground.guard }], guard := some (17, false) }) (v := .slice (some ⟨gl, 0, none⟩) A.length cl) rfl (by kernel_rfl) (by kernel_rfl) (by kernel_rfl) (fun _ _ _ h => h) (Or.inl ⟨by rfl, by intro w hSw; go_simp⟩) (by assumption) ?_
            simp only [Act.put, List.setIfInBounds_toArray, List.set_cons_zero, List.set_cons_succ]
            refine wpAnyH_take (i := 19) (oi := { dst := some 98, op := Op.move (Operand.tmp 9), type := 3, pos := "outright.go:139", after := #[{ on := 17, ground := Ground.guard }], guard := some (17, false) }) (v := .int .i64 (N : Int)) rfl (by kernel_rfl) (by kernel_rfl) (by kernel_rfl) (fun _ _ _ h => h) (Or.inl ⟨by rfl, by intro w hSw; go_simp⟩) (by assumption) ?_
            simp only [Act.put, List.setIfInBounds_toArray, List.set_cons_zero, List.set_cons_succ]
            refine wpAnyH_take (i := 20) (oi := { dst := some 99, op := Op.indexAddr 43 (Operand.tmp 97) (Operand.tmp 98), type := 0, pos := "outright.go:139", after := #[{ on := 18, ground := Ground.data }, { on := 19, ground := Ground.data }, { on := 17, ground := Ground.guard }], guard := some (17, false) }) (v := .pointer (some ⟨gl, N * 5, none⟩)) rfl (by kernel_rfl) (by kernel_rfl) (by kernel_rfl) (fun _ _ _ h => h) (Or.inl ⟨by rfl, by intro w hSw; go_simp⟩) (by assumption) ?_
            simp only [Act.put, List.setIfInBounds_toArray, List.set_cons_zero, List.set_cons_succ]
            refine wpAnyH_take (i := 21) (oi := { dst := some 100, op := Op.fieldAddr 55 (Operand.tmp 99) 0, type := 0, pos := "outright.go:139", after := #[{ on := 20, ground := Ground.data }, { on := 17, ground := Ground.guard }], guard := some (17, false) }) (v := .pointer (some ⟨gl, N * 5, none⟩)) rfl (by kernel_rfl) (by kernel_rfl) (by kernel_rfl) (fun _ _ _ h => h) (Or.inl ⟨by rfl, by intro w hSw; go_simp⟩) (by assumption) ?_
            simp only [Act.put, List.setIfInBounds_toArray, List.set_cons_zero, List.set_cons_succ]
            refine wpAnyH_take (i := 22) (oi := { dst := some 101, op := Op.load 22 (Operand.tmp 100), type := 22, pos := "outright.go:139", after := #[{ on := 21, ground := Ground.data }, { on := 17, ground := Ground.guard }], guard := some (17, false) }) (v := .int .u32 x.1) rfl (by kernel_rfl) (by kernel_rfl) (by kernel_rfl) (fun _ _ _ h => h) (Or.inl ⟨by rfl, by intro w hSw; have hc := hSw.2.2.2.2; go_simp⟩) (by assumption) ?_
            simp only [Act.put, List.setIfInBounds_toArray, List.set_cons_zero, List.set_cons_succ]
            refine wpAnyH_take (i := 23) (oi := { dst := some 102, op := Op.move (Operand.tmp 4), type := 36, pos := "outright.go:139", after := #[{ on := 17, ground := Ground.guard }], guard := some (17, false) }) (v := .slice (some ⟨g2, 0, none⟩) B.length cc) rfl (by kernel_rfl) (by kernel_rfl) (by kernel_rfl) (fun _ _ _ h => h) (Or.inl ⟨by rfl, by intro w hSw; go_simp⟩) (by assumption) ?_
            simp only [Act.put, List.setIfInBounds_toArray, List.set_cons_zero, List.set_cons_succ]
            refine wpAnyH_take (i := 24) (oi := { dst := some 103, op := Op.move (Operand.tmp 10), type := 3, pos := "outright.go:139", after := #[{ on := 17, ground := Ground.guard }], guard := some (17, false) }) (v := .int .i64 (k2 : Int)) rfl (by kernel_rfl) (by kernel_rfl) (by kernel_rfl) (fun _ _ _ h => h) (Or.inl ⟨by rfl, by intro w hSw; go_simp⟩) (by assumption) ?_
            simp only [Act.put, List.setIfInBounds_toArray, List.set_cons_zero, List.set_cons_succ]
            refine wpAnyH_take (i := 25) (oi := { dst := some 104, op := Op.indexAddr 36 (Operand.tmp 102) (Operand.tmp 103), type := 0, pos := "outright.go:139", after := #[{ on := 23, ground := Ground.data }, { on := 24, ground := Ground.data }, { on := 17, ground := Ground.guard }], guard := some (17, false) }) (v := .pointer (some ⟨g2, k2 * 5, none⟩)) rfl (by kernel_rfl) (by kernel_rfl) (by kernel_rfl) (fun _ _ _ h => h) (Or.inl ⟨by rfl, by intro w hSw; go_simp⟩) (by assumption) ?_
            simp only [Act.put, List.setIfInBounds_toArray, List.set_cons_zero, List.set_cons_succ]
            refine wpAnyH_take (i := 26) (oi := { dst := some 105, op := Op.fieldAddr 53 (Operand.tmp 104) 0, type := 0, pos := "outright.go:139", after := #[{ on := 25, ground := Ground.data }, { on := 17, ground := Ground.guard }], guard := some (17, false) }) (v := .pointer (some ⟨g2, k2 * 5, none⟩)) rfl (by kernel_rfl) (by kernel_rfl) (by kernel_rfl) (fun _ _ _ h => h) (Or.inl ⟨by rfl, by intro w hSw; go_simp⟩) (by assumption) ?_
            simp only [Act.put, List.setIfInBounds_toArray, List.set_cons_zero, List.set_cons_succ]
            refine wpAnyH_take (i := 27) (oi := { dst := some 106, op := Op.load 22 (Operand.tmp 105), type := 22, pos := "outright.go:139", after := #[{ on := 26, ground := Ground.data }, { on := 17, ground := Ground.guard }], guard := some (17, false) }) (v := .int .u32 x.1) rfl (by kernel_rfl) (by kernel_rfl) (by kernel_rfl) (fun _ _ _ h => h) (Or.inl ⟨by rfl, by intro w hSw; have hc := hSw.2.2.1; go_simp⟩) (by assumption) ?_
            simp only [Act.put, List.setIfInBounds_toArray, List.set_cons_zero, List.set_cons_succ]
            refine wpAnyH_take (i := 28) (oi := { dst := some 107, op := Op.binOp BinOp.neq 22 (Operand.tmp 101) (Operand.tmp 106) 22, type := 4, pos := "outright.go:139", after := #[{ on := 22, ground := Ground.data }, { on := 27, ground := Ground.data }, { on := 17, ground := Ground.guard }], guard := some (17, false) }) (v := .bool false) rfl (by kernel_rfl) (by kernel_rfl) (by kernel_rfl) (fun _ _ _ h => h) (Or.inl ⟨by rfl, by intro w hSw; go_simp⟩) (by assumption) ?_
            simp only [Act.put, List.setIfInBounds_toArray, List.set_cons_zero, List.set_cons_succ]
            refine wpAnyH_take (i := 29) (oi := { dst := some 108, op := Op.pick (Operand.tmp 96) (Operand.const (Value.bool true)) (Operand.tmp 107), type := 4, pos := "outright.go:139", after := #[{ on := 17, ground := Ground.data }, { on := 28, ground := Ground.data }], guard := none }) (v := .bool false) rfl (by kernel_rfl) (by kernel_rfl) (by kernel_rfl) (fun _ _ _ h => h) (Or.inl ⟨by rfl, by intro w hSw; go_simp⟩) (by assumption) ?_
            simp only [Act.put, List.setIfInBounds_toArray, List.set_cons_zero, List.set_cons_succ]
            refine wpAnyH_take (i := 30) (oi := { dst := some 109, op := Op.move (Operand.tmp 108), type := 4, pos := "outright.go:139", after := #[{ on := 29, ground := Ground.data }, { on := 17, ground := Ground.chain }], guard := none }) (v := .bool false) rfl (by kernel_rfl) (by kernel_rfl) (by kernel_rfl) (fun _ _ _ h => h) (Or.inl ⟨by rfl, by intro w hSw; go_simp⟩) (by assumption) ?_
            simp only [Act.put, List.setIfInBounds_toArray, List.set_cons_zero, List.set_cons_succ]
            refine wpAnyH_take (i := 31) (oi := { dst := some 110, op := Op.move (Operand.tmp 7), type := 43, pos := "outright.go:139", after := #[{ on := 30, ground := Ground.guard }], guard := some (30, false) }) (v := .slice (some ⟨gl, 0, none⟩) A.length cl) rfl (by kernel_rfl) (by kernel_rfl) (by kernel_rfl) (fun _ _ _ h => h) (Or.inl ⟨by rfl, by intro w hSw; go_simp⟩) (by assumption) ?_
            simp only [Act.put, List.setIfInBounds_toArray, List.set_cons_zero, List.set_cons_succ]
            refine wpAnyH_take (i := 32) (oi := { dst := some 111, op := Op.move (Operand.tmp 9), type := 3, pos := "outright.go:139", after := #[{ on := 30, ground := Ground.guard }], guard := some (30, false) }) (v := .int .i64 (N : Int)) rfl (by kernel_rfl) (by kernel_rfl) (by kernel_rfl) (fun _ _ _ h => h) (Or.inl ⟨by rfl, by intro w hSw; go_simp⟩) (by assumption) ?_
            simp only [Act.put, List.setIfInBounds_toArray, List.set_cons_zero, List.set_cons_succ]
            refine wpAnyH_take (i := 33) (oi := { dst := some 112, op := Op.indexAddr 43 (Operand.tmp 110) (Operand.tmp 111), type := 0, pos := "outright.go:139", after := #[{ on := 31, ground := Ground.data }, { on := 32, ground := Ground.data }, { on := 30, ground := Ground.guard }], guard := some (30, false) }) (v := .pointer (some ⟨gl, N * 5, none⟩)) rfl (by kernel_rfl) (by kernel_rfl) (by kernel_rfl) (fun _ _ _ h => h) (Or.inl ⟨by rfl, by intro w hSw; go_simp⟩) (by assumption) ?_
            simp only [Act.put, List.setIfInBounds_toArray, List.set_cons_zero, List.set_cons_succ]
            refine wpAnyH_take (i := 34) (oi := { dst := some 113, op := Op.fieldAddr 55 (Operand.tmp 112) 1, type := 0, pos := "outright.go:139", after := #[{ on := 33, ground := Ground.data }, { on := 30, ground := Ground.guard }], guard := some (30, false) }) (v := .pointer (some ⟨gl, N * 5 + 1, none⟩)) rfl (by kernel_rfl) (by kernel_rfl) (by kernel_rfl) (fun _ _ _ h => h) (Or.inl ⟨by rfl, by intro w hSw; go_simp⟩) (by assumption) ?_
            simp only [Act.put, List.setIfInBounds_toArray, List.set_cons_zero, List.set_cons_succ]
            refine wpAnyH_take (i := 35) (oi := { dst := some 114, op := Op.load 49 (Operand.tmp 113), type := 49, pos := "outright.go:139", after := #[{ on := 34, ground := Ground.data }, { on := 30, ground := Ground.guard }], guard := some (30, false) }) (v := .agg #[.bool x.2.s, .int .i64 x.2.p, .bool x.2.wr, .bool x.2.ex]) rfl (by kernel_rfl) (by kernel_rfl) (by kernel_rfl) (fun _ _ _ h => h) (yieldsIf_load_mid (by rfl) _ _ rfl _ _ rfl _ _ (fun w hSw => hSw.2.2.2.1) under49 rfl (by rw [size49]; rfl)) (by assumption) ?_
            simp only [Act.put, List.setIfInBounds_toArray, List.set_cons_zero, List.set_cons_succ]
            refine wpAnyH_take (i := 36) (oi := { dst := some 115, op := Op.load 49 (Operand.tmp 11), type := 49, pos := "outright.go:139", after := #[{ on := 30, ground := Ground.guard }], guard := some (30, false) }) (v := .agg #[.bool x.2.s, .int .i64 x.2.p, .bool x.2.wr, .bool x.2.ex]) rfl (by kernel_rfl) (by kernel_rfl) (by kernel_rfl) (fun _ _ _ h => h) (yieldsIf_load_mid (by rfl) _ _ rfl _ _ rfl _ _ (fun w hSw => hSw.1.range) under49 rfl (by rw [size49]; rfl)) (by assumption) ?_
            simp only [Act.put, List.setIfInBounds_toArray, List.set_cons_zero, List.set_cons_succ]
            refine wpAnyH_take (i := 37) (oi := { dst := some 116, op := Op.binOp BinOp.neq 49 (Operand.tmp 114) (Operand.tmp 115) 49, type := 4, pos := "outright.go:139", after := #[{ on := 35, ground := Ground.data }, { on := 36, ground := Ground.data }, { on := 30, ground := Ground.guard }], guard := some (30, false) }) (v := .bool false) rfl (by kernel_rfl) (by kernel_rfl) (by kernel_rfl) (fun _ _ _ h => h) (Or.inl ⟨by rfl, by intro w hSw; go_simp⟩) (by assumption) ?_
            simp only [Act.put, List.setIfInBounds_toArray, List.set_cons_zero, List.set_cons_succ]
            refine wpAnyH_take (i := 38) (oi := { dst := some 117, op := Op.pick (Operand.tmp 109) (Operand.const (Value.bool true)) (Operand.tmp 116), type := 4, pos := "outright.go:139", after := #[{ on := 30, ground := Ground.data }, { on := 37, ground := Ground.data }], guard := none }) (v := .bool false) rfl (by kernel_rfl) (by kernel_rfl) (by kernel_rfl) (fun _ _ _ h => h) (Or.inl ⟨by rfl, by intro w hSw; go_simp⟩) (by assumption) ?_
            simp only [Act.put, List.setIfInBounds_toArray, List.set_cons_zero, List.set_cons_succ]
            refine wpAnyH_done (by kernel_rfl) ?_ _
            go_wp2_with fail
            go_roundw
            case measure => have := HK2.out; simp [intOf] <;> omega
            case rel => exact ⟨k2 + 1, HK2.out, by rw [HNo.out]; simp, by simp, HS7⟩
        · have hkn2 : (B.length : Int) ≤ (k2 : Int) := by omega
          obtain rfl : k2 = B.length := by omega
          rw [List.take_length, HA.out]
          clear hlt hk2 hkn2
          go_wp2_with fail
          go_loopw [13] (fun i wr3 => ∃ k3 : Nat, k3 ≤ n ∧ i = .int .i64 (k3 : Int) ∧ Hid (LS W wr3 p d ao cc B al cl A)) (fun i _ => n - (intOf i).toNat)
          case atStart => exact ⟨0, Nat.zero_le _, rfl, HS2⟩
          case round =>
            obtain ⟨k3, hk3, rfl, HS3⟩ := hrel
            clear HS2
            by_cases hlt : k3 < n
            · have q1 : (k3 : Int) < (n : Int) := by omega
              have q2 : (k3 : Int) ≤ 4611686018427387904 := by omega
              obtain ⟨g, off, rfl, hgl, hr⟩ := HQ.out.at_ (by omega)
              obtain ⟨c3, hc3⟩ := HS3.out.db
              have HV := hid (HQ.out.v k3 hlt)
              have HRs := hid (fun w (h : Below W.heap.size W w) => rangeAt_on (hr k3 hlt) hgl h)
              have r1 := HRs.out _ hc3.below 1 _ rfl
              have HK3 : Hid (k3 < n) := hid hlt
              have ea := and_not12 (q k3).va HV.out.1 HV.out.2
              have HF := hid (fun w (hw : w.ownsRow W.heap.size 53 5 (.slice ao B.length cc) B.length (flat B)) => find_l w ao cc W.heap.size B hw HBk.out.len (pgv (q k3).va))
              have HAt := hid (fun w (c : Int) (hw : DB w p (d.wc c)) => at_wc w p d c hw HI.out.mf.U (q k3).va HV.out.1 HV.out.2)
              have HNo := hid (last_no HI.out HBk.out HV.out.1)
              clear hlt hgl hr hk3 hc3 c3
              simp only [ptr, Mp.v] at HAt
              generalize d.atM 0 (q k3).va = M at *
              generalize d.atE 0 (q k3).va = E at *
              generalize isIn B (pgv (q k3).va) = T at *
              go_upto_region 30 with (first | (go_at_call 15; refine (HF.out _ HS3.out.bk).mono ?_; rintro y w5 ⟨rfl, hb⟩; have HS4 := hid (HS3.out.on hb); clear hb))
              clear r1
              obtain ⟨c4, hc4⟩ := HS4.out.db
              have HD4 := hid hc4
              have r1 := HRs.out _ hc4.below 1 _ rfl
              clear hc4
              go_upto_region 31 with (first | (go_at_call 13; refine (HAt.out _ c4 HD4.out.db).mono ?_; rintro y w6 ⟨c5, rfl, hd, hb⟩; have HS5 := hid ((HS4.out.at hd rfl hb).on (below_one w6 (.cells #[.bool M.s, .int .i64 M.p, .bool M.wr, .bool M.ex] 49))); clear hd hb))
              generalize w6.alloc _ = w7 at *
              cases T with
              | true =>
                go_wp2_with fail
                go_roundw
                case measure => have := HK3.out; simp [intOf] <;> omega
                case rel => exact ⟨k3 + 1, HK3.out, by simp, HS5⟩
              | false =>
                have hE := HNo.out rfl
                have hEb : (E == 0) = false := by simp [hE]
                go_wp2_with fail
                go_roundw
                case measure => have := HK3.out; simp [intOf] <;> omega
                case rel => exact ⟨k3 + 1, HK3.out, by simp, HS5⟩
            · have hkn3 : (n : Int) ≤ (k3 : Int) := by omega
              obtain ⟨c3, hc3⟩ := HS3.out.db
              have HE := hid hc3.below
              clear hc3 hlt hk3
              go_wp2_with fail
              go_returns
              exact ⟨by simp, HE.out⟩
end Go.Proofs.Ytgbpbfnpeeciaaa
