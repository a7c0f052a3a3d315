/- moved 11. -/
import Derived.Test.YtgbpbfnpeeciaaaLmXgXhX2XiXj
namespace Go.Proofs.Ytgbpbfnpeeciaaa
open Go.RowKit
set_option maxRecDepth 100000
set_option maxHeartbeats 40000000
theorem moved_p5 (W : World) (p : Dp) (d : DS) (G : Int → Int → Int) (h : DB W p d) (hI : Inv d G) (B : List (Int × Mp)) (hB : Bk B G) (ao : Option Addr) (cc base : Nat) (hO : W.ownsRow base 53 5 (.slice ao B.length cc) B.length (flat B)) (hbs : base ≤ W.heap.size) (x : Mv) (hcut : x.cut = false) (h1 : x.va < 1073741824) (h2 : x.va % 4 = 0) (h3 : ¬ x.va / 4194304 = 0) (h5 : x.va / 4194304 = 5) (v0 : 0 ≤ x.va) (v1 : x.va < 4294967296) :
    Calls Try.prog 11 #[ptr p.g, .slice ao B.length cc, .agg #[.bool x.cut, .int .u32 x.va, .bool x.m.s, .int .i64 x.m.p, .bool x.m.wr, .bool x.m.ex]] W fun y W' => ∃ ao' cc' B' d' G', y = .returned (.tuple #[.slice ao' (List.length B') cc', .bool true]) ∧ W'.ownsRow base 53 5 (.slice ao' B'.length cc') B'.length (flat B') ∧ Bk B' G' ∧ Inv d' G' ∧ DB W' p d' ∧ ButL p.f.w W W' := by
  have D0 := hid ((DG.startw h).new 42 [.bool x.cut, .int .u32 x.va, .bool x.m.s, .int .i64 x.m.p, .bool x.m.wr, .bool x.m.ex])
  have HF := hid (fun w (hw : w.ownsRow base 53 5 (.slice ao B.length cc) B.length (flat B)) => find_l w ao cc base B hw hB.len (pgv x.va))
  have HOw := hid (fun w (hw : ButL p.f.w W w) => own_butE hO h hw)
  have HCu := hid (fun w (hw : DB w p d) => cut_any w p d hw hI.mf.U 0 x.va v0 v1)
  have HPu := hid (fun w (hw : DB w p d) => put_any w p d hw hI.mf.U 0 x.va x.m v0 v1)
  have HTu := hid (fun w => turned_l w x.m)
  have HSe := hid (fun w => second_any w x.m)
  have ea := and_not12 x.va v0 v1
  have e3 := and_low2 x.va v0 v1
  have HBl := hid hB.len
  have hBl : (B.length : Int) ≤ 6144 := by have := HBl.out; omega
  have HIv := hid hI
  have HBk := hid hB
  have HO := hid hO
  have HV := hid (And.intro v0 v1)
  have HBs := hid hbs
  have hpl := pos_le B (pgv x.va)
  clear h hO hI hB hbs
  simp only [ptr, Mp.v] at *
  rw [hcut] at D0
  have hb3 : (x.va / 4194304 == 0) = false := by simp [h3]
  have hv : VaOk x.va := ⟨h1, h2⟩
  have hT : HasT x.va := by unfold HasT; rw [(vaok_sp hv).2]; omega
  cases hi : isIn B (pgv x.va) with
  | true =>
    have hm := mvPutT HIv.out HBk.out HV.out.1 hv hT hi x.m
    rw [hm.1] at HPu
    rw [hi] at HF
    go_enter Try.func11, Try.ntmps11
    go_upto_region 1 with fail
    generalize World.alloc _ _ = X at *
    generalize hg : W.heap.size = g5 at D0 ⊢
    have HG := hid hg
    clear hg
    have c0 := (D0.out.get 0 rfl).cell 0
    have c1 := (D0.out.get 0 rfl).cell 1
    simp only [List.getElem?_cons_zero, List.getElem?_cons_succ] at c0 c1
    go_upto_region 3 with (first | (go_at_call 15; refine (HF.out _ (HOw.out _ D0.out.but)).mono ?_; rintro y w1 ⟨rfl, hb⟩; have D1 := hid (D0.out.on hb); clear hb))
    clear D0 c0 c1 HF
    have c0 := (D1.out.get 0 rfl).cell 0
    have c1 := (D1.out.get 0 rfl).cell 1
    simp only [List.getElem?_cons_zero, List.getElem?_cons_succ] at c0 c1
    go_upto_region 13 with (first | (go_at_call 17; refine (HTu.out _).mono ?_; rintro y w2 ⟨rfl, hb⟩; have D2 := hid ((D1.out.on hb).new 49 [.bool x.m.s, .int .i64 x.m.p, .bool x.m.wr, .bool x.m.ex]); have HN2 : Hid (w2.heap.size ≠ g5) := hid (fun e => by have := ((D1.out.on hb).get 0 rfl).lt; omega); clear hb) | (refine wpList_load_gm rfl 40 _ rfl g5 2 rfl _ _ (Cel.mv (x := ⟨false, x.va, x.m⟩) (D1.out.get 0 rfl)) under40 rfl size40 ?_))
    generalize w2.alloc _ = w3 at *
    generalize w2.heap.size = g15 at *
    clear D1 c0 c1
    have c1 := (D2.out.get 1 rfl).cell 1
    simp only [List.getElem?_cons_zero, List.getElem?_cons_succ] at c1
    go_upto_region 15 with (first | (go_at_call 34; refine (HSe.out _).mono ?_; rintro y w4 ⟨rfl, hb⟩; have D3 := hid (D2.out.on hb); have c2 := ((D2.out.on hb).get 1 rfl).cell 1; simp only [List.getElem?_cons_zero, List.getElem?_cons_succ] at c2; clear hb) | (go_at_call 18; refine (HPu.out _ D3.out.db).mono ?_; rintro y w5 ⟨rfl, hd, hb⟩; have D4 := hid (D3.out.step hd hb (fun _ hk => hk)); clear hd hb) | (refine wpList_load_g rfl 49 _ rfl g15 rfl (D3.out.get 0 rfl) rfl under49 size49 ?_) | (refine wpList_load_g rfl 49 _ rfl g15 rfl (D2.out.get 0 rfl) rfl under49 size49 ?_))
    clear D2 D3 c1 c2
    go_wp2_with fail
    go_returns
    exact ⟨ao, cc, B, _, G, rfl, HOw.out _ D4.out.but, HBk.out, hm.2, D4.out.db, D4.out.but⟩
  | false =>
    have hm := mvPutF HIv.out HBk.out HV.out.1 hv hT hi x.m
    rw [hm.1] at HPu
    rw [hi] at HF
    by_cases he : x.m.err = 0
    · rw [show putB B (pgv x.va) x.m = (B.take (pos B (pgv x.va)) ++ [(pgv x.va, x.m)]) ++ B.drop (pos B (pgv x.va)) by simp [putB]] at hm
      generalize pos B (pgv x.va) = K at *
      have HM := hid (hm.2.2 he)
      rw [he] at HSe
      rw [he] at HPu
      have hKl : K ≤ B.length := hpl
      have hl1 : ([] : List (Int × Mp)).length + (B.take K).length ≤ 1000000 := by have := HBl.out; rw [List.length_take]; simp; omega
      have hl2 : (B.take K).length + [(pgv x.va, x.m)].length ≤ 1000000 := by have := HBl.out; rw [List.length_take]; simp; omega
      have hl3 : (B.take K ++ [(pgv x.va, x.m)]).length + (B.drop K).length ≤ 1000000 := by have := HBl.out; rw [List.length_append, List.length_take, List.length_drop]; simp; omega
      have hl4 : ([] ++ B.take K).length = K := by rw [List.nil_append, List.length_take]; omega
      have HL := hid (And.intro hl1 (And.intro hl2 (And.intro hl3 hl4)))
      have HLk : Hid ((B.take K ++ [(pgv x.va, x.m)]).length = K + 1) := hid (by rw [List.length_append, List.length_take, List.length_singleton]; omega)
      have HLn : Hid (((B.take K ++ [(pgv x.va, x.m)]) ++ B.drop K).length = B.length + 1) := hid (by rw [List.length_append, List.length_append, List.length_take, List.length_drop, List.length_singleton]; omega)
      clear hl1 hl2 hl3 hl4 hm
      rcases own_sm HO.out with ⟨hvv, hn⟩ | ⟨g, cap, hvv, hcap, hbg, _⟩
      · injection hvv with hvv hvn hvc
        subst hvv hvc hn
        obtain rfl : K = 0 := by simpa using hKl
        go_enter Try.func11, Try.ntmps11
        go_upto_region 1 with fail
        generalize World.alloc _ _ = X at *
        generalize hg : W.heap.size = g5 at D0 ⊢
        have HG := hid hg
        clear hg
        have c0 := (D0.out.get 0 rfl).cell 0
        have c1 := (D0.out.get 0 rfl).cell 1
        simp only [List.getElem?_cons_zero, List.getElem?_cons_succ] at c0 c1
        go_upto_region 3 with (first | (go_at_call 15; refine (HF.out _ (HOw.out _ D0.out.but)).mono ?_; rintro y w1 ⟨rfl, hb⟩; have D1 := hid (D0.out.on hb); clear hb))
        clear D0 c0 c1 HF
        have c0 := (D1.out.get 0 rfl).cell 0
        have c1 := (D1.out.get 0 rfl).cell 1
        simp only [List.getElem?_cons_zero, List.getElem?_cons_succ] at c0 c1
        go_upto_region 13 with (first | (go_at_call 17; refine (HTu.out _).mono ?_; rintro y w2 ⟨rfl, hb⟩; have D2 := hid ((D1.out.on hb).new 49 [.bool x.m.s, .int .i64 x.m.p, .bool x.m.wr, .bool x.m.ex]); have HN2 : Hid (w2.heap.size ≠ g5) := hid (fun e => by have := ((D1.out.on hb).get 0 rfl).lt; omega); clear hb) | (refine wpList_load_gm rfl 40 _ rfl g5 2 rfl _ _ (Cel.mv (x := ⟨false, x.va, x.m⟩) (D1.out.get 0 rfl)) under40 rfl size40 ?_))
        generalize w2.alloc _ = w3 at *
        generalize w2.heap.size = g15 at *
        clear D1 c0 c1
        have c1 := (D2.out.get 1 rfl).cell 1
        simp only [List.getElem?_cons_zero, List.getElem?_cons_succ] at c1
        go_upto_region 15 with (first | (go_at_call 34; refine (HSe.out _).mono ?_; rintro y w4 ⟨rfl, hb⟩; have D3 := hid (D2.out.on hb); have c2 := ((D2.out.on hb).get 1 rfl).cell 1; simp only [List.getElem?_cons_zero, List.getElem?_cons_succ] at c2; clear hb) | (go_at_call 18; refine (HPu.out _ D3.out.db).mono ?_; rintro y w5 ⟨rfl, hd, hb⟩; have D4 := hid (D3.out.step hd hb (fun _ hk => hk)); clear hd hb) | (refine wpList_load_g rfl 49 _ rfl g15 rfl (D3.out.get 0 rfl) rfl under49 size49 ?_) | (refine wpList_load_g rfl 49 _ rfl g15 rfl (D2.out.get 0 rfl) rfl under49 size49 ?_))
        clear D2 D3 c1 c2
        go_upto_region 20 with (first | (at_builtin; refine wpList_append53 rfl _ _ rfl W.heap.size (.slice none 0 0) (.slice none 0 0) [] (([] : List (Int × Mp)).take 0) rfl (World.ownsRow_nil _ _ _ _) D4.out.but.size rfl (.inl ⟨rfl, rfl⟩) HL.out.1 0 HL.out.2.2.2 ?_; intro ao6 cc6 w6 ho6 hg6; have D6 := hid (D4.out.grow (A := []) (World.ownsRow_nil _ _ _ _) hg6 (by simp)); have HO6 := hid ho6; clear ho6 hg6))
        have HSn : Hid (SrcAt (w6.alloc (.cells #[.int .u32 (pgv x.va), .bool x.m.s, .int .i64 x.m.p, .bool x.m.wr, .bool x.m.ex] 53)) (.slice (some ⟨w6.heap.size, 0, none⟩) 1 1) [(pgv x.va, x.m)]) := hid (.inr ⟨_, _, rfl, fun j u hj => (Cel.new w6 53 (atC (pgv x.va, x.m))).src j u (by simpa [flat] using hj)⟩)
        have D7 := hid (D6.out.on (below_one w6 (.cells #[.int .u32 (pgv x.va), .bool x.m.s, .int .i64 x.m.p, .bool x.m.wr, .bool x.m.ex] 53)))
        go_upto_region 21 with (first | (at_builtin; refine wpList_append53 rfl _ _ rfl W.heap.size _ (.slice (some ⟨w6.heap.size, 0, none⟩) 1 1) (([] : List (Int × Mp)).take 0) [(pgv x.va, x.m)] rfl (HO6.out.alloc _) D7.out.but.size rfl HSn.out HL.out.2.1 (0 + 1) HLk.out ?_; intro ao8 cc8 w8 ho8 hg8; have D8 := hid (D7.out.grow (A := ([] : List (Int × Mp)).take 0) (HO6.out.alloc _) hg8 (by simp)); have HO8 := hid ho8; clear ho8 hg8) | (refine wpList_load_g rfl 49 _ rfl g15 rfl (D6.out.get 0 rfl) rfl under49 size49 ?_))
        go_wp2_with (first | (at_builtin; refine wpList_append53 rfl _ _ rfl W.heap.size _ (.slice none 0 0) (([] : List (Int × Mp)).take 0 ++ [(pgv x.va, x.m)]) (([] : List (Int × Mp)).drop 0) rfl HO8.out D8.out.but.size rfl (.inl ⟨rfl, rfl⟩) HL.out.2.2.1 (([] : List (Int × Mp)).length + 1) HLn.out ?_; intro ao9 cc9 w9 ho9 hg9; have D9 := hid (D8.out.grow (A := ([] : List (Int × Mp)).take 0 ++ [(pgv x.va, x.m)]) HO8.out hg9 (by simp)); have HO9 := hid ho9; clear ho9 hg9))
        go_returns
        exact ⟨ao9, cc9, (([] : List (Int × Mp)).take 0 ++ [(pgv x.va, x.m)]) ++ ([] : List (Int × Mp)).drop 0, _, _, by rw [HLn.out]; rfl, own_weak (by rw [HLn.out]; have := HO9.out; rw [HLn.out] at this; exact this) HBs.out, HM.out.2, HM.out.1, D9.out.db, D9.out.but⟩
      · injection hvv with hvv hvn hvc
        subst hvv hvc
        have HS1 : Hid (∀ w, w.ownsRow base 53 5 (.slice (some ⟨g, 0, none⟩) B.length cc) B.length (flat B) → SrcAt w (.slice (some ⟨g, 0, none⟩) K cc) (B.take K)) := hid (fun w hw => by have := src_of HO.out hw 0 K cc (by omega); simpa using this)
        have HS2 : Hid (∀ w c, w.ownsRow base 53 5 (.slice (some ⟨g, 0, none⟩) B.length cc) B.length (flat B) → SrcAt w (.slice (some ⟨g, K * 5, none⟩) (B.length - K) c) (B.drop K)) := hid (fun w c hw => by have := src_of HO.out hw K (B.length - K) c (by omega); rwa [List.take_of_length_le (by rw [List.length_drop]; omega)] at this)
        have hK : (K : Int) ≤ (B.length : Int) := by omega
        by_cases hcK : cc = K
        · subst hcK
          have HS3 : Hid (∀ w, SrcAt w (.slice (some ⟨g, 0, none⟩) 0 0) (B.drop cc)) := hid (fun w => .inr ⟨_, _, by rw [List.length_drop, show B.length - cc = 0 by omega], fun j u hj => by rw [List.drop_eq_nil_of_le (by omega)] at hj; simp [flat] at hj⟩)
          go_enter Try.func11, Try.ntmps11
          go_upto_region 1 with fail
          generalize World.alloc _ _ = X at *
          generalize hg : W.heap.size = g5 at D0 ⊢
          have HG := hid hg
          clear hg
          have c0 := (D0.out.get 0 rfl).cell 0
          have c1 := (D0.out.get 0 rfl).cell 1
          simp only [List.getElem?_cons_zero, List.getElem?_cons_succ] at c0 c1
          go_upto_region 3 with (first | (go_at_call 15; refine (HF.out _ (HOw.out _ D0.out.but)).mono ?_; rintro y w1 ⟨rfl, hb⟩; have D1 := hid (D0.out.on hb); clear hb))
          clear D0 c0 c1 HF
          have c0 := (D1.out.get 0 rfl).cell 0
          have c1 := (D1.out.get 0 rfl).cell 1
          simp only [List.getElem?_cons_zero, List.getElem?_cons_succ] at c0 c1
          go_upto_region 13 with (first | (go_at_call 17; refine (HTu.out _).mono ?_; rintro y w2 ⟨rfl, hb⟩; have D2 := hid ((D1.out.on hb).new 49 [.bool x.m.s, .int .i64 x.m.p, .bool x.m.wr, .bool x.m.ex]); have HN2 : Hid (w2.heap.size ≠ g5) := hid (fun e => by have := ((D1.out.on hb).get 0 rfl).lt; omega); clear hb) | (refine wpList_load_gm rfl 40 _ rfl g5 2 rfl _ _ (Cel.mv (x := ⟨false, x.va, x.m⟩) (D1.out.get 0 rfl)) under40 rfl size40 ?_))
          generalize w2.alloc _ = w3 at *
          generalize w2.heap.size = g15 at *
          clear D1 c0 c1
          have c1 := (D2.out.get 1 rfl).cell 1
          simp only [List.getElem?_cons_zero, List.getElem?_cons_succ] at c1
          go_upto_region 15 with (first | (go_at_call 34; refine (HSe.out _).mono ?_; rintro y w4 ⟨rfl, hb⟩; have D3 := hid (D2.out.on hb); have c2 := ((D2.out.on hb).get 1 rfl).cell 1; simp only [List.getElem?_cons_zero, List.getElem?_cons_succ] at c2; clear hb) | (go_at_call 18; refine (HPu.out _ D3.out.db).mono ?_; rintro y w5 ⟨rfl, hd, hb⟩; have D4 := hid (D3.out.step hd hb (fun _ hk => hk)); clear hd hb) | (refine wpList_load_g rfl 49 _ rfl g15 rfl (D3.out.get 0 rfl) rfl under49 size49 ?_) | (refine wpList_load_g rfl 49 _ rfl g15 rfl (D2.out.get 0 rfl) rfl under49 size49 ?_))
          clear D2 D3 c1 c2
          go_upto_region 20 with (first | (at_builtin; refine wpList_append53 rfl _ _ rfl W.heap.size (.slice none 0 0) _ [] (B.take cc) rfl (World.ownsRow_nil _ _ _ _) D4.out.but.size rfl (HS1.out _ (HOw.out _ D4.out.but)) HL.out.1 cc HL.out.2.2.2 ?_; intro ao6 cc6 w6 ho6 hg6; have D6 := hid (D4.out.grow (A := []) (World.ownsRow_nil _ _ _ _) hg6 (by simp)); have HO6 := hid ho6; clear ho6 hg6))
          have HSn : Hid (SrcAt (w6.alloc (.cells #[.int .u32 (pgv x.va), .bool x.m.s, .int .i64 x.m.p, .bool x.m.wr, .bool x.m.ex] 53)) (.slice (some ⟨w6.heap.size, 0, none⟩) 1 1) [(pgv x.va, x.m)]) := hid (.inr ⟨_, _, rfl, fun j u hj => (Cel.new w6 53 (atC (pgv x.va, x.m))).src j u (by simpa [flat] using hj)⟩)
          have D7 := hid (D6.out.on (below_one w6 (.cells #[.int .u32 (pgv x.va), .bool x.m.s, .int .i64 x.m.p, .bool x.m.wr, .bool x.m.ex] 53)))
          go_upto_region 21 with (first | (at_builtin; refine wpList_append53 rfl _ _ rfl W.heap.size _ (.slice (some ⟨w6.heap.size, 0, none⟩) 1 1) (B.take cc) [(pgv x.va, x.m)] rfl (HO6.out.alloc _) D7.out.but.size rfl HSn.out HL.out.2.1 (cc + 1) HLk.out ?_; intro ao8 cc8 w8 ho8 hg8; have D8 := hid (D7.out.grow (A := B.take cc) (HO6.out.alloc _) hg8 (by simp)); have HO8 := hid ho8; clear ho8 hg8) | (refine wpList_load_g rfl 49 _ rfl g15 rfl (D6.out.get 0 rfl) rfl under49 size49 ?_))
          go_wp2_with (first | (at_builtin; refine wpList_append53 rfl _ _ rfl W.heap.size _ (.slice (some ⟨g, 0, none⟩) 0 0) (B.take cc ++ [(pgv x.va, x.m)]) (B.drop cc) rfl HO8.out D8.out.but.size rfl (HS3.out _) HL.out.2.2.1 (B.length + 1) HLn.out ?_; intro ao9 cc9 w9 ho9 hg9; have D9 := hid (D8.out.grow (A := B.take cc ++ [(pgv x.va, x.m)]) HO8.out hg9 (by simp)); have HO9 := hid ho9; clear ho9 hg9))
          go_returns
          exact ⟨ao9, cc9, (B.take cc ++ [(pgv x.va, x.m)]) ++ B.drop cc, _, _, by rw [HLn.out]; rfl, own_weak (by rw [HLn.out]; have := HO9.out; rw [HLn.out] at this; exact this) HBs.out, HM.out.2, HM.out.1, D9.out.db, D9.out.but⟩
        · go_enter Try.func11, Try.ntmps11
          go_upto_region 1 with fail
          generalize World.alloc _ _ = X at *
          generalize hg : W.heap.size = g5 at D0 ⊢
          have HG := hid hg
          clear hg
          have c0 := (D0.out.get 0 rfl).cell 0
          have c1 := (D0.out.get 0 rfl).cell 1
          simp only [List.getElem?_cons_zero, List.getElem?_cons_succ] at c0 c1
          go_upto_region 3 with (first | (go_at_call 15; refine (HF.out _ (HOw.out _ D0.out.but)).mono ?_; rintro y w1 ⟨rfl, hb⟩; have D1 := hid (D0.out.on hb); clear hb))
          clear D0 c0 c1 HF
          have c0 := (D1.out.get 0 rfl).cell 0
          have c1 := (D1.out.get 0 rfl).cell 1
          simp only [List.getElem?_cons_zero, List.getElem?_cons_succ] at c0 c1
          go_upto_region 13 with (first | (go_at_call 17; refine (HTu.out _).mono ?_; rintro y w2 ⟨rfl, hb⟩; have D2 := hid ((D1.out.on hb).new 49 [.bool x.m.s, .int .i64 x.m.p, .bool x.m.wr, .bool x.m.ex]); have HN2 : Hid (w2.heap.size ≠ g5) := hid (fun e => by have := ((D1.out.on hb).get 0 rfl).lt; omega); clear hb) | (refine wpList_load_gm rfl 40 _ rfl g5 2 rfl _ _ (Cel.mv (x := ⟨false, x.va, x.m⟩) (D1.out.get 0 rfl)) under40 rfl size40 ?_))
          generalize w2.alloc _ = w3 at *
          generalize w2.heap.size = g15 at *
          clear D1 c0 c1
          have c1 := (D2.out.get 1 rfl).cell 1
          simp only [List.getElem?_cons_zero, List.getElem?_cons_succ] at c1
          go_upto_region 15 with (first | (go_at_call 34; refine (HSe.out _).mono ?_; rintro y w4 ⟨rfl, hb⟩; have D3 := hid (D2.out.on hb); have c2 := ((D2.out.on hb).get 1 rfl).cell 1; simp only [List.getElem?_cons_zero, List.getElem?_cons_succ] at c2; clear hb) | (go_at_call 18; refine (HPu.out _ D3.out.db).mono ?_; rintro y w5 ⟨rfl, hd, hb⟩; have D4 := hid (D3.out.step hd hb (fun _ hk => hk)); clear hd hb) | (refine wpList_load_g rfl 49 _ rfl g15 rfl (D3.out.get 0 rfl) rfl under49 size49 ?_) | (refine wpList_load_g rfl 49 _ rfl g15 rfl (D2.out.get 0 rfl) rfl under49 size49 ?_))
          clear D2 D3 c1 c2
          go_upto_region 20 with (first | (at_builtin; refine wpList_append53 rfl _ _ rfl W.heap.size (.slice none 0 0) _ [] (B.take K) rfl (World.ownsRow_nil _ _ _ _) D4.out.but.size rfl (HS1.out _ (HOw.out _ D4.out.but)) HL.out.1 K HL.out.2.2.2 ?_; intro ao6 cc6 w6 ho6 hg6; have D6 := hid (D4.out.grow (A := []) (World.ownsRow_nil _ _ _ _) hg6 (by simp)); have HO6 := hid ho6; clear ho6 hg6))
          have HSn : Hid (SrcAt (w6.alloc (.cells #[.int .u32 (pgv x.va), .bool x.m.s, .int .i64 x.m.p, .bool x.m.wr, .bool x.m.ex] 53)) (.slice (some ⟨w6.heap.size, 0, none⟩) 1 1) [(pgv x.va, x.m)]) := hid (.inr ⟨_, _, rfl, fun j u hj => (Cel.new w6 53 (atC (pgv x.va, x.m))).src j u (by simpa [flat] using hj)⟩)
          have D7 := hid (D6.out.on (below_one w6 (.cells #[.int .u32 (pgv x.va), .bool x.m.s, .int .i64 x.m.p, .bool x.m.wr, .bool x.m.ex] 53)))
          go_upto_region 21 with (first | (at_builtin; refine wpList_append53 rfl _ _ rfl W.heap.size _ (.slice (some ⟨w6.heap.size, 0, none⟩) 1 1) (B.take K) [(pgv x.va, x.m)] rfl (HO6.out.alloc _) D7.out.but.size rfl HSn.out HL.out.2.1 (K + 1) HLk.out ?_; intro ao8 cc8 w8 ho8 hg8; have D8 := hid (D7.out.grow (A := B.take K) (HO6.out.alloc _) hg8 (by simp)); have HO8 := hid ho8; clear ho8 hg8) | (refine wpList_load_g rfl 49 _ rfl g15 rfl (D6.out.get 0 rfl) rfl under49 size49 ?_))
          go_wp2_with (first | (at_builtin; refine wpList_append53 rfl _ _ rfl W.heap.size _ (.slice (some ⟨g, K * 5, none⟩) (B.length - K) _) (B.take K ++ [(pgv x.va, x.m)]) (B.drop K) rfl HO8.out D8.out.but.size rfl (HS2.out _ _ (HOw.out _ D8.out.but)) HL.out.2.2.1 (B.length + 1) HLn.out ?_; intro ao9 cc9 w9 ho9 hg9; have D9 := hid (D8.out.grow (A := B.take K ++ [(pgv x.va, x.m)]) HO8.out hg9 (by simp)); have HO9 := hid ho9; clear ho9 hg9))
          go_returns
          exact ⟨ao9, cc9, (B.take K ++ [(pgv x.va, x.m)]) ++ B.drop K, _, _, by rw [HLn.out]; rfl, own_weak (by rw [HLn.out]; have := HO9.out; rw [HLn.out] at this; exact this) HBs.out, HM.out.2, HM.out.1, D9.out.db, D9.out.but⟩
    · have hi2 := hm.2.1 he
      generalize x.m.err = er at *
      have heb : (er == 0) = false := by simp [he]
      go_enter Try.func11, Try.ntmps11
      go_upto_region 1 with fail
      generalize World.alloc _ _ = X at *
      generalize hg : W.heap.size = g5 at D0 ⊢
      have HG := hid hg
      clear hg
      have c0 := (D0.out.get 0 rfl).cell 0
      have c1 := (D0.out.get 0 rfl).cell 1
      simp only [List.getElem?_cons_zero, List.getElem?_cons_succ] at c0 c1
      go_upto_region 3 with (first | (go_at_call 15; refine (HF.out _ (HOw.out _ D0.out.but)).mono ?_; rintro y w1 ⟨rfl, hb⟩; have D1 := hid (D0.out.on hb); clear hb))
      clear D0 c0 c1 HF
      have c0 := (D1.out.get 0 rfl).cell 0
      have c1 := (D1.out.get 0 rfl).cell 1
      simp only [List.getElem?_cons_zero, List.getElem?_cons_succ] at c0 c1
      go_upto_region 13 with (first | (go_at_call 17; refine (HTu.out _).mono ?_; rintro y w2 ⟨rfl, hb⟩; have D2 := hid ((D1.out.on hb).new 49 [.bool x.m.s, .int .i64 x.m.p, .bool x.m.wr, .bool x.m.ex]); have HN2 : Hid (w2.heap.size ≠ g5) := hid (fun e => by have := ((D1.out.on hb).get 0 rfl).lt; omega); clear hb) | (refine wpList_load_gm rfl 40 _ rfl g5 2 rfl _ _ (Cel.mv (x := ⟨false, x.va, x.m⟩) (D1.out.get 0 rfl)) under40 rfl size40 ?_))
      generalize w2.alloc _ = w3 at *
      generalize w2.heap.size = g15 at *
      clear D1 c0 c1
      have c1 := (D2.out.get 1 rfl).cell 1
      simp only [List.getElem?_cons_zero, List.getElem?_cons_succ] at c1
      go_upto_region 15 with (first | (go_at_call 34; refine (HSe.out _).mono ?_; rintro y w4 ⟨rfl, hb⟩; have D3 := hid (D2.out.on hb); have c2 := ((D2.out.on hb).get 1 rfl).cell 1; simp only [List.getElem?_cons_zero, List.getElem?_cons_succ] at c2; clear hb) | (go_at_call 18; refine (HPu.out _ D3.out.db).mono ?_; rintro y w5 ⟨rfl, hd, hb⟩; have D4 := hid (D3.out.step hd hb (fun _ hk => hk)); clear hd hb) | (refine wpList_load_g rfl 49 _ rfl g15 rfl (D3.out.get 0 rfl) rfl under49 size49 ?_) | (refine wpList_load_g rfl 49 _ rfl g15 rfl (D2.out.get 0 rfl) rfl under49 size49 ?_))
      clear D2 D3 c1 c2
      go_wp2_with fail
      go_returns
      exact ⟨ao, cc, B, _, G, rfl, HOw.out _ D4.out.but, HBk.out, hi2, D4.out.db, D4.out.but⟩
end Go.Proofs.Ytgbpbfnpeeciaaa
