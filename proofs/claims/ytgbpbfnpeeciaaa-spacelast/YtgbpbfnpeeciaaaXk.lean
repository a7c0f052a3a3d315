/- moved 11. -/
import Derived.Test.YtgbpbfnpeeciaaaLmXgXhX2XiXj
namespace Go.Proofs.Ytgbpbfnpeeciaaa
open Go.RowKit
set_option maxRecDepth 100000
set_option maxHeartbeats 40000000
theorem moved_c (W : World) (p : Dp) (d : DS) (G : Int → Int → Int) (h : DB W p d) (hI : Inv d G) (B : List (Int × Mp)) (hB : Bk B G) (ao : Option Addr) (cc base : Nat) (hO : W.ownsRow base 53 5 (.slice ao B.length cc) B.length (flat B)) (hbs : base ≤ W.heap.size) (x : Mv) (hcut : x.cut = true) (v0 : 0 ≤ x.va) (v1 : x.va < 4294967296) :
    Calls Try.prog 11 #[ptr p.g, .slice ao B.length cc, .agg #[.bool x.cut, .int .u32 x.va, .bool x.m.s, .int .i64 x.m.p, .bool x.m.wr, .bool x.m.ex]] W fun y W' => ∃ ao' cc' B' d' G', y = .returned (.tuple #[.slice ao' (List.length B') cc', .bool true]) ∧ W'.ownsRow base 53 5 (.slice ao' B'.length cc') B'.length (flat B') ∧ Bk B' G' ∧ Inv d' G' ∧ DB W' p d' ∧ ButL p.f.w W W' := by
  have D0 := hid ((DG.startw h).new 42 [.bool x.cut, .int .u32 x.va, .bool x.m.s, .int .i64 x.m.p, .bool x.m.wr, .bool x.m.ex])
  have HF := hid (fun w (hw : w.ownsRow base 53 5 (.slice ao B.length cc) B.length (flat B)) => find_l w ao cc base B hw hB.len (pgv x.va))
  have HOw := hid (fun w (hw : ButL p.f.w W w) => own_butE hO h hw)
  have HCu := hid (fun w (hw : DB w p d) => cut_any w p d hw hI.mf.U 0 x.va v0 v1)
  have HPu := hid (fun w (hw : DB w p d) => put_any w p d hw hI.mf.U 0 x.va x.m v0 v1)
  have HTu := hid (fun w => turned_l w x.m)
  have HSe := hid (fun w => second_any w x.m)
  have ea := and_not12 x.va v0 v1
  have e3 := and_low2 x.va v0 v1
  have HBl := hid hB.len
  have hBl : (B.length : Int) ≤ 6144 := by have := HBl.out; omega
  have HIv := hid hI
  have HBk := hid hB
  have HO := hid hO
  have HV := hid (And.intro v0 v1)
  have HBs := hid hbs
  have hpl := pos_le B (pgv x.va)
  clear h hO hI hB hbs
  simp only [ptr, Mp.v] at *
  rw [hcut] at D0
  by_cases h1 : x.va < 1073741824
  · by_cases h2 : x.va % 4 = 0
    · by_cases h3 : x.va / 4194304 = 0
      · have hv : VaOk x.va := ⟨h1, h2⟩
        have hT : HasT x.va := by unfold HasT; rw [(vaok_sp hv).2]; omega
        cases hi : isIn B (pgv x.va) with
        | false =>
          have hm := mvCutF HIv.out HBk.out HV.out.1 hv hT hi
          rw [hm.1] at HCu
          rw [hi] at HF
          go_enter Try.func11, Try.ntmps11
          go_upto_region 1 with fail
          generalize World.alloc _ _ = X at *
          generalize hg : W.heap.size = g5 at D0 ⊢
          have HG := hid hg
          clear hg
          have c0 := (D0.out.get 0 rfl).cell 0
          have c1 := (D0.out.get 0 rfl).cell 1
          simp only [List.getElem?_cons_zero, List.getElem?_cons_succ] at c0 c1
          go_upto_region 3 with (first | (go_at_call 15; refine (HF.out _ (HOw.out _ D0.out.but)).mono ?_; rintro y w1 ⟨rfl, hb⟩; have D1 := hid (D0.out.on hb); clear hb))
          clear D0 c0 c1 HF
          have c0 := (D1.out.get 0 rfl).cell 0
          have c1 := (D1.out.get 0 rfl).cell 1
          simp only [List.getElem?_cons_zero, List.getElem?_cons_succ] at c0 c1
          go_wp2_with (first | (go_at_call 16; refine (HCu.out _ D1.out.db).mono ?_; rintro y w2 ⟨rfl, hd, hb⟩; have D2 := hid (D1.out.step hd hb (fun _ hk => hk)); clear hd hb))
          go_returns
          exact ⟨ao, cc, B, _, G, rfl, HOw.out _ D2.out.but, HBk.out, hm.2, D2.out.db, D2.out.but⟩
        | true =>
          have hm := mvCutT HIv.out HBk.out HV.out.1 hv hT hi
          rw [hm.1] at HCu
          rw [hi] at HF
          have hpb : pos B (pgv x.va) < B.length := by obtain ⟨_, _, _, h, _⟩ := at_pos hi; exact h
          rcases own_sm HO.out with ⟨_, hn⟩ | ⟨g, cap, hvv, hcap, hbg, _⟩
          · rw [hn] at hpb; simp at hpb
          · injection hvv with hvv hvn hvc
            subst hvv hvc
            have HM := hid hm.2
            clear hm hT hv
            unfold cutB at HM
            generalize pos B (pgv x.va) = K at *
            have HS1 : Hid (∀ w, w.ownsRow base 53 5 (.slice (some ⟨g, 0, none⟩) B.length cc) B.length (flat B) → SrcAt w (.slice (some ⟨g, 0, none⟩) K cc) (B.take K)) := hid (fun w hw => by have := src_of HO.out hw 0 K cc (by omega); simpa using this)
            have HS2 : Hid (∀ w c, w.ownsRow base 53 5 (.slice (some ⟨g, 0, none⟩) B.length cc) B.length (flat B) → SrcAt w (.slice (some ⟨g, (K + 1) * 5, none⟩) (B.length - (K + 1)) c) (B.drop (K + 1))) := hid (fun w c hw => by have := src_of HO.out hw (K + 1) (B.length - (K + 1)) c (by omega); rwa [List.take_of_length_le (by rw [List.length_drop]; omega)] at this)
            have hK : (K : Int) + 1 ≤ (B.length : Int) := by omega
            have hl1 : ([] : List (Int × Mp)).length + (B.take K).length ≤ 1000000 := by have := HBl.out; rw [List.length_take]; simp; omega
            have hl2 : ([] ++ B.take K).length + (B.drop (K + 1)).length ≤ 1000000 := by have := HBl.out; rw [List.nil_append, List.length_take, List.length_drop]; omega
            have hl3 : ([] ++ B.take K).length = K := by rw [List.nil_append, List.length_take]; omega
            have HL := hid (And.intro hl1 (And.intro hl2 hl3))
            have HLn : Hid ((B.take K ++ B.drop (K + 1)).length = B.length - 1) := hid (by rw [List.length_append, List.length_take, List.length_drop]; omega)
            clear hl1 hl2 hl3
            by_cases hcK : cc = K + 1
            · subst hcK
              have HS3 : Hid (∀ w, SrcAt w (.slice (some ⟨g, 0, none⟩) 0 0) (B.drop (K + 1))) := hid (fun w => .inr ⟨_, _, by rw [List.length_drop, show B.length - (K + 1) = 0 by omega], fun j u hj => by rw [List.drop_eq_nil_of_le (by omega)] at hj; simp [flat] at hj⟩)
              go_enter Try.func11, Try.ntmps11
              go_upto_region 1 with fail
              generalize World.alloc _ _ = X at *
              generalize hg : W.heap.size = g5 at D0 ⊢
              have HG := hid hg
              clear hg
              have c0 := (D0.out.get 0 rfl).cell 0
              have c1 := (D0.out.get 0 rfl).cell 1
              simp only [List.getElem?_cons_zero, List.getElem?_cons_succ] at c0 c1
              go_upto_region 3 with (first | (go_at_call 15; refine (HF.out _ (HOw.out _ D0.out.but)).mono ?_; rintro y w1 ⟨rfl, hb⟩; have D1 := hid (D0.out.on hb); clear hb))
              clear D0 c0 c1 HF
              have c0 := (D1.out.get 0 rfl).cell 0
              have c1 := (D1.out.get 0 rfl).cell 1
              simp only [List.getElem?_cons_zero, List.getElem?_cons_succ] at c0 c1
              go_upto_region 10 with (first | (go_at_call 16; refine (HCu.out _ D1.out.db).mono ?_; rintro y w2 ⟨rfl, hd, hb⟩; have D2 := hid (D1.out.step hd hb (fun _ hk => hk)); clear hd hb))
              go_upto_region 11 with (first | (at_builtin; refine wpList_append53 rfl _ _ rfl W.heap.size (.slice none 0 0) _ [] (B.take K) rfl (World.ownsRow_nil _ _ _ _) D2.out.but.size rfl (HS1.out _ (HOw.out _ D2.out.but)) HL.out.1 K HL.out.2.2 ?_; intro ao3 cc3 w3 ho3 hg3; have D3 := hid (D2.out.grow (A := []) (World.ownsRow_nil _ _ _ _) hg3 (by simp)); have HO3 := hid ho3; clear ho3 hg3))
              go_wp2_with (first | (at_builtin; refine wpList_append53 rfl _ _ rfl W.heap.size _ (.slice (some ⟨g, 0, none⟩) 0 0) (B.take K) (B.drop (K + 1)) rfl HO3.out D3.out.but.size rfl (HS3.out _) HL.out.2.1 (B.length - 1) HLn.out ?_; intro ao4 cc4 w4 ho4 hg4; have D4 := hid (D3.out.grow (A := B.take K) HO3.out hg4 (by simp)); have HO4 := hid ho4; clear ho4 hg4))
              go_returns
              exact ⟨ao4, cc4, B.take K ++ B.drop (K + 1), _, _, by rw [HLn.out]; rfl, own_weak (by rw [HLn.out]; have := HO4.out; rw [HLn.out] at this; exact this) HBs.out, HM.out.2, HM.out.1, D4.out.db, D4.out.but⟩
            · go_enter Try.func11, Try.ntmps11
              go_upto_region 1 with fail
              generalize World.alloc _ _ = X at *
              generalize hg : W.heap.size = g5 at D0 ⊢
              have HG := hid hg
              clear hg
              have c0 := (D0.out.get 0 rfl).cell 0
              have c1 := (D0.out.get 0 rfl).cell 1
              simp only [List.getElem?_cons_zero, List.getElem?_cons_succ] at c0 c1
              go_upto_region 3 with (first | (go_at_call 15; refine (HF.out _ (HOw.out _ D0.out.but)).mono ?_; rintro y w1 ⟨rfl, hb⟩; have D1 := hid (D0.out.on hb); clear hb))
              clear D0 c0 c1 HF
              have c0 := (D1.out.get 0 rfl).cell 0
              have c1 := (D1.out.get 0 rfl).cell 1
              simp only [List.getElem?_cons_zero, List.getElem?_cons_succ] at c0 c1
              go_upto_region 10 with (first | (go_at_call 16; refine (HCu.out _ D1.out.db).mono ?_; rintro y w2 ⟨rfl, hd, hb⟩; have D2 := hid (D1.out.step hd hb (fun _ hk => hk)); clear hd hb))
              go_upto_region 11 with (first | (at_builtin; refine wpList_append53 rfl _ _ rfl W.heap.size (.slice none 0 0) _ [] (B.take K) rfl (World.ownsRow_nil _ _ _ _) D2.out.but.size rfl (HS1.out _ (HOw.out _ D2.out.but)) HL.out.1 K HL.out.2.2 ?_; intro ao3 cc3 w3 ho3 hg3; have D3 := hid (D2.out.grow (A := []) (World.ownsRow_nil _ _ _ _) hg3 (by simp)); have HO3 := hid ho3; clear ho3 hg3))
              go_wp2_with (first | (at_builtin; refine wpList_append53 rfl _ _ rfl W.heap.size _ (.slice (some ⟨g, (K + 1) * 5, none⟩) (B.length - (K + 1)) _) (B.take K) (B.drop (K + 1)) rfl HO3.out D3.out.but.size rfl (HS2.out _ _ (HOw.out _ D3.out.but)) HL.out.2.1 (B.length - 1) HLn.out ?_; intro ao4 cc4 w4 ho4 hg4; have D4 := hid (D3.out.grow (A := B.take K) HO3.out hg4 (by simp)); have HO4 := hid ho4; clear ho4 hg4))
              go_returns
              exact ⟨ao4, cc4, B.take K ++ B.drop (K + 1), _, _, by rw [HLn.out]; rfl, own_weak (by rw [HLn.out]; have := HO4.out; rw [HLn.out] at this; exact this) HBs.out, HM.out.2, HM.out.1, D4.out.db, D4.out.but⟩
      · have hb3 : (x.va / 4194304 == 0) = false := by simp [h3]
        by_cases h5 : x.va / 4194304 = 5
        · have hv : VaOk x.va := ⟨h1, h2⟩
          have hT : HasT x.va := by unfold HasT; rw [(vaok_sp hv).2]; omega
          cases hi : isIn B (pgv x.va) with
          | false =>
            have hm := mvCutF HIv.out HBk.out HV.out.1 hv hT hi
            rw [hm.1] at HCu
            rw [hi] at HF
            go_enter Try.func11, Try.ntmps11
            go_upto_region 1 with fail
            generalize World.alloc _ _ = X at *
            generalize hg : W.heap.size = g5 at D0 ⊢
            have HG := hid hg
            clear hg
            have c0 := (D0.out.get 0 rfl).cell 0
            have c1 := (D0.out.get 0 rfl).cell 1
            simp only [List.getElem?_cons_zero, List.getElem?_cons_succ] at c0 c1
            go_upto_region 3 with (first | (go_at_call 15; refine (HF.out _ (HOw.out _ D0.out.but)).mono ?_; rintro y w1 ⟨rfl, hb⟩; have D1 := hid (D0.out.on hb); clear hb))
            clear D0 c0 c1 HF
            have c0 := (D1.out.get 0 rfl).cell 0
            have c1 := (D1.out.get 0 rfl).cell 1
            simp only [List.getElem?_cons_zero, List.getElem?_cons_succ] at c0 c1
            go_wp2_with (first | (go_at_call 16; refine (HCu.out _ D1.out.db).mono ?_; rintro y w2 ⟨rfl, hd, hb⟩; have D2 := hid (D1.out.step hd hb (fun _ hk => hk)); clear hd hb))
            go_returns
            exact ⟨ao, cc, B, _, G, rfl, HOw.out _ D2.out.but, HBk.out, hm.2, D2.out.db, D2.out.but⟩
          | true =>
            have hm := mvCutT HIv.out HBk.out HV.out.1 hv hT hi
            rw [hm.1] at HCu
            rw [hi] at HF
            have hpb : pos B (pgv x.va) < B.length := by obtain ⟨_, _, _, h, _⟩ := at_pos hi; exact h
            rcases own_sm HO.out with ⟨_, hn⟩ | ⟨g, cap, hvv, hcap, hbg, _⟩
            · rw [hn] at hpb; simp at hpb
            · injection hvv with hvv hvn hvc
              subst hvv hvc
              have HM := hid hm.2
              clear hm hT hv
              unfold cutB at HM
              generalize pos B (pgv x.va) = K at *
              have HS1 : Hid (∀ w, w.ownsRow base 53 5 (.slice (some ⟨g, 0, none⟩) B.length cc) B.length (flat B) → SrcAt w (.slice (some ⟨g, 0, none⟩) K cc) (B.take K)) := hid (fun w hw => by have := src_of HO.out hw 0 K cc (by omega); simpa using this)
              have HS2 : Hid (∀ w c, w.ownsRow base 53 5 (.slice (some ⟨g, 0, none⟩) B.length cc) B.length (flat B) → SrcAt w (.slice (some ⟨g, (K + 1) * 5, none⟩) (B.length - (K + 1)) c) (B.drop (K + 1))) := hid (fun w c hw => by have := src_of HO.out hw (K + 1) (B.length - (K + 1)) c (by omega); rwa [List.take_of_length_le (by rw [List.length_drop]; omega)] at this)
              have hK : (K : Int) + 1 ≤ (B.length : Int) := by omega
              have hl1 : ([] : List (Int × Mp)).length + (B.take K).length ≤ 1000000 := by have := HBl.out; rw [List.length_take]; simp; omega
              have hl2 : ([] ++ B.take K).length + (B.drop (K + 1)).length ≤ 1000000 := by have := HBl.out; rw [List.nil_append, List.length_take, List.length_drop]; omega
              have hl3 : ([] ++ B.take K).length = K := by rw [List.nil_append, List.length_take]; omega
              have HL := hid (And.intro hl1 (And.intro hl2 hl3))
              have HLn : Hid ((B.take K ++ B.drop (K + 1)).length = B.length - 1) := hid (by rw [List.length_append, List.length_take, List.length_drop]; omega)
              clear hl1 hl2 hl3
              by_cases hcK : cc = K + 1
              · subst hcK
                have HS3 : Hid (∀ w, SrcAt w (.slice (some ⟨g, 0, none⟩) 0 0) (B.drop (K + 1))) := hid (fun w => .inr ⟨_, _, by rw [List.length_drop, show B.length - (K + 1) = 0 by omega], fun j u hj => by rw [List.drop_eq_nil_of_le (by omega)] at hj; simp [flat] at hj⟩)
                go_enter Try.func11, Try.ntmps11
                go_upto_region 1 with fail
                generalize World.alloc _ _ = X at *
                generalize hg : W.heap.size = g5 at D0 ⊢
                have HG := hid hg
                clear hg
                have c0 := (D0.out.get 0 rfl).cell 0
                have c1 := (D0.out.get 0 rfl).cell 1
                simp only [List.getElem?_cons_zero, List.getElem?_cons_succ] at c0 c1
                go_upto_region 3 with (first | (go_at_call 15; refine (HF.out _ (HOw.out _ D0.out.but)).mono ?_; rintro y w1 ⟨rfl, hb⟩; have D1 := hid (D0.out.on hb); clear hb))
                clear D0 c0 c1 HF
                have c0 := (D1.out.get 0 rfl).cell 0
                have c1 := (D1.out.get 0 rfl).cell 1
                simp only [List.getElem?_cons_zero, List.getElem?_cons_succ] at c0 c1
                go_upto_region 10 with (first | (go_at_call 16; refine (HCu.out _ D1.out.db).mono ?_; rintro y w2 ⟨rfl, hd, hb⟩; have D2 := hid (D1.out.step hd hb (fun _ hk => hk)); clear hd hb))
                go_upto_region 11 with (first | (at_builtin; refine wpList_append53 rfl _ _ rfl W.heap.size (.slice none 0 0) _ [] (B.take K) rfl (World.ownsRow_nil _ _ _ _) D2.out.but.size rfl (HS1.out _ (HOw.out _ D2.out.but)) HL.out.1 K HL.out.2.2 ?_; intro ao3 cc3 w3 ho3 hg3; have D3 := hid (D2.out.grow (A := []) (World.ownsRow_nil _ _ _ _) hg3 (by simp)); have HO3 := hid ho3; clear ho3 hg3))
                go_wp2_with (first | (at_builtin; refine wpList_append53 rfl _ _ rfl W.heap.size _ (.slice (some ⟨g, 0, none⟩) 0 0) (B.take K) (B.drop (K + 1)) rfl HO3.out D3.out.but.size rfl (HS3.out _) HL.out.2.1 (B.length - 1) HLn.out ?_; intro ao4 cc4 w4 ho4 hg4; have D4 := hid (D3.out.grow (A := B.take K) HO3.out hg4 (by simp)); have HO4 := hid ho4; clear ho4 hg4))
                go_returns
                exact ⟨ao4, cc4, B.take K ++ B.drop (K + 1), _, _, by rw [HLn.out]; rfl, own_weak (by rw [HLn.out]; have := HO4.out; rw [HLn.out] at this; exact this) HBs.out, HM.out.2, HM.out.1, D4.out.db, D4.out.but⟩
              · go_enter Try.func11, Try.ntmps11
                go_upto_region 1 with fail
                generalize World.alloc _ _ = X at *
                generalize hg : W.heap.size = g5 at D0 ⊢
                have HG := hid hg
                clear hg
                have c0 := (D0.out.get 0 rfl).cell 0
                have c1 := (D0.out.get 0 rfl).cell 1
                simp only [List.getElem?_cons_zero, List.getElem?_cons_succ] at c0 c1
                go_upto_region 3 with (first | (go_at_call 15; refine (HF.out _ (HOw.out _ D0.out.but)).mono ?_; rintro y w1 ⟨rfl, hb⟩; have D1 := hid (D0.out.on hb); clear hb))
                clear D0 c0 c1 HF
                have c0 := (D1.out.get 0 rfl).cell 0
                have c1 := (D1.out.get 0 rfl).cell 1
                simp only [List.getElem?_cons_zero, List.getElem?_cons_succ] at c0 c1
                go_upto_region 10 with (first | (go_at_call 16; refine (HCu.out _ D1.out.db).mono ?_; rintro y w2 ⟨rfl, hd, hb⟩; have D2 := hid (D1.out.step hd hb (fun _ hk => hk)); clear hd hb))
                go_upto_region 11 with (first | (at_builtin; refine wpList_append53 rfl _ _ rfl W.heap.size (.slice none 0 0) _ [] (B.take K) rfl (World.ownsRow_nil _ _ _ _) D2.out.but.size rfl (HS1.out _ (HOw.out _ D2.out.but)) HL.out.1 K HL.out.2.2 ?_; intro ao3 cc3 w3 ho3 hg3; have D3 := hid (D2.out.grow (A := []) (World.ownsRow_nil _ _ _ _) hg3 (by simp)); have HO3 := hid ho3; clear ho3 hg3))
                go_wp2_with (first | (at_builtin; refine wpList_append53 rfl _ _ rfl W.heap.size _ (.slice (some ⟨g, (K + 1) * 5, none⟩) (B.length - (K + 1)) _) (B.take K) (B.drop (K + 1)) rfl HO3.out D3.out.but.size rfl (HS2.out _ _ (HOw.out _ D3.out.but)) HL.out.2.1 (B.length - 1) HLn.out ?_; intro ao4 cc4 w4 ho4 hg4; have D4 := hid (D3.out.grow (A := B.take K) HO3.out hg4 (by simp)); have HO4 := hid ho4; clear ho4 hg4))
                go_returns
                exact ⟨ao4, cc4, B.take K ++ B.drop (K + 1), _, _, by rw [HLn.out]; rfl, own_weak (by rw [HLn.out]; have := HO4.out; rw [HLn.out] at this; exact this) HBs.out, HM.out.2, HM.out.1, D4.out.db, D4.out.but⟩
        · have hb5 : (x.va / 4194304 == 5) = false := by simp [h5]
          have hm := mvNoT HIv.out HV.out.1 ⟨h1, h2⟩ h3 h5
          rw [hm.1] at HCu
          go_enter Try.func11, Try.ntmps11
          go_upto_region 1 with fail
          generalize World.alloc _ _ = X at *
          generalize hg : W.heap.size = g5 at D0 ⊢
          have HG := hid hg
          clear hg
          have c0 := (D0.out.get 0 rfl).cell 0
          have c1 := (D0.out.get 0 rfl).cell 1
          simp only [List.getElem?_cons_zero, List.getElem?_cons_succ] at c0 c1
          go_upto_region 3 with (first | (go_at_call 15; refine (HF.out _ (HOw.out _ D0.out.but)).mono ?_; rintro y w1 ⟨rfl, hb⟩; have D1 := hid (D0.out.on hb); clear hb))
          clear D0 c0 c1 HF
          have c0 := (D1.out.get 0 rfl).cell 0
          have c1 := (D1.out.get 0 rfl).cell 1
          simp only [List.getElem?_cons_zero, List.getElem?_cons_succ] at c0 c1
          go_wp2_with (first | (go_at_call 16; refine (HCu.out _ D1.out.db).mono ?_; rintro y w2 ⟨rfl, hd, hb⟩; have D2 := hid (D1.out.step hd hb (fun _ hk => hk)); clear hd hb))
          go_returns
          exact ⟨ao, cc, B, _, G, rfl, HOw.out _ D2.out.but, HBk.out, hm.2.1, D2.out.db, D2.out.but⟩
    · have hb2 : (x.va % 4 == 0) = false := by simp [h2]
      have hm := mvBad HIv.out HV.out.1 (fun h => h2 h.2)
      rw [hm.1] at HCu
      go_enter Try.func11, Try.ntmps11
      go_upto_region 1 with fail
      generalize World.alloc _ _ = X at *
      generalize hg : W.heap.size = g5 at D0 ⊢
      have HG := hid hg
      clear hg
      have c0 := (D0.out.get 0 rfl).cell 0
      have c1 := (D0.out.get 0 rfl).cell 1
      simp only [List.getElem?_cons_zero, List.getElem?_cons_succ] at c0 c1
      go_upto_region 3 with (first | (go_at_call 15; refine (HF.out _ (HOw.out _ D0.out.but)).mono ?_; rintro y w1 ⟨rfl, hb⟩; have D1 := hid (D0.out.on hb); clear hb))
      clear D0 c0 c1 HF
      have c0 := (D1.out.get 0 rfl).cell 0
      have c1 := (D1.out.get 0 rfl).cell 1
      simp only [List.getElem?_cons_zero, List.getElem?_cons_succ] at c0 c1
      go_wp2_with (first | (go_at_call 16; refine (HCu.out _ D1.out.db).mono ?_; rintro y w2 ⟨rfl, hd, hb⟩; have D2 := hid (D1.out.step hd hb (fun _ hk => hk)); clear hd hb))
      go_returns
      exact ⟨ao, cc, B, _, G, rfl, HOw.out _ D2.out.but, HBk.out, hm.2.1, D2.out.db, D2.out.but⟩
  · have hm := mvBad HIv.out HV.out.1 (fun h => h1 h.1)
    rw [hm.1] at HCu
    go_enter Try.func11, Try.ntmps11
    go_upto_region 1 with fail
    generalize World.alloc _ _ = X at *
    generalize hg : W.heap.size = g5 at D0 ⊢
    have HG := hid hg
    clear hg
    have c0 := (D0.out.get 0 rfl).cell 0
    have c1 := (D0.out.get 0 rfl).cell 1
    simp only [List.getElem?_cons_zero, List.getElem?_cons_succ] at c0 c1
    go_upto_region 3 with (first | (go_at_call 15; refine (HF.out _ (HOw.out _ D0.out.but)).mono ?_; rintro y w1 ⟨rfl, hb⟩; have D1 := hid (D0.out.on hb); clear hb))
    clear D0 c0 c1 HF
    have c0 := (D1.out.get 0 rfl).cell 0
    have c1 := (D1.out.get 0 rfl).cell 1
    simp only [List.getElem?_cons_zero, List.getElem?_cons_succ] at c0 c1
    go_wp2_with (first | (go_at_call 16; refine (HCu.out _ D1.out.db).mono ?_; rintro y w2 ⟨rfl, hd, hb⟩; have D2 := hid (D1.out.step hd hb (fun _ hk => hk)); clear hd hb))
    go_returns
    exact ⟨ao, cc, B, _, G, rfl, HOw.out _ D2.out.but, HBk.out, hm.2.1, D2.out.db, D2.out.but⟩
end Go.Proofs.Ytgbpbfnpeeciaaa
