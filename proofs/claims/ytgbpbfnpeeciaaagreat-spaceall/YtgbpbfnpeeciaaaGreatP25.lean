import Derived.Test.YtgbpbfnpeeciaaaGreatP24
namespace Go.Proofs.YtgbpbfnpeeciaaaGreat
open Go.RowKit
set_option maxRecDepth 100000
set_option maxHeartbeats 4000000
theorem DG.new {W w : World} {p : Dp} {d : DS} {G : List Nat} {L : List (Nat × TypeId × List Value)} (h : DG W w p d G L) (u : TypeId) (es : List Value) : DG W (w.alloc (.cells es.toArray u)) p d G ((w.heap.size, u, es) :: L) := h.add (ds := es) (Cel.new w u es) (.refl _ _)
theorem DG.startw {W : World} {p : Dp} {d : DS} (h : DB W p d) : DG W W p d p.f.w [] := .start h _ (fun k hk => h.mem.lt k (Fp.w_all hk))
theorem DG.mem {W w w2 : World} {p : Dp} {d : DS} {L : List (Nat × TypeId × List Value)} {m' : MS} (h : DG W w p d p.f.w L) (hm : Mem w2 p.f m') (hb : ButL p.f.w w w2) (hn : m'.ns = d.m.ns) : DG W w2 p { d with m := m' } p.f.w L := h.step (h.db.memory hm hb hn) hb (fun _ hk => hk)
theorem MS.read_ns (m : MS) (s : Bool) (p off : Int) : (m.read s p off).ns = m.ns := by
  unfold MS.read
  split
  · rfl
  · split <;> rfl
def DS.rd (d : DS) (pg off : Int) : DS := { d with m := d.m.read true pg off }
def DS.wr (d : DS) (pg off v : Int) : DS := { d with m := d.m.write true pg off v }
theorem DS.rd_ent (d : DS) (a b q : Int) : (d.rd a b).ent q = d.ent q ∧ (d.rd a b).entE q = d.entE q := by
  unfold DS.ent DS.entE DS.there DS.at DS.rd
  simp only [MS.read_ns, and_self]
theorem DS.rd_own (d : DS) (a b s pg k : Int) : (d.rd a b).own s pg k = d.own s pg k := by unfold DS.own; rw [(d.rd_ent a b pg).1]
theorem readd_any (W : World) (p : Dp) (d : DS) (h : DB W p d) (pg off : Int) :
    Calls Tryz.prog 79 #[plV p.f pg off] W fun x W' => x = .returned (.int .u32 (d.m.word true pg off)) ∧ DB W' p (d.rd pg off) ∧ ButL p.f.w W W' :=
  (readp_any W p.f d.m h.mem pg off).mono fun _ _ ⟨e, hm, hb⟩ => ⟨e, h.memory hm hb (MS.read_ns ..), hb⟩
theorem layd_any (W : World) (p : Dp) (d : DS) (h : DB W p d) (pg off v : Int) :
    Calls Tryz.prog 80 #[plV p.f pg off, .int .u32 v] W fun x W' => x = .returned (.tuple #[]) ∧ DB W' p (d.wr pg off v) ∧ ButL p.f.w W W' :=
  (layp_any W p.f d.m h.mem pg off v).mono fun _ _ ⟨e, hm, hb⟩ => ⟨e, h.memory hm hb (MS.write_ns ..), hb⟩
def DS.preE (d : DS) (s : Int) : Int := if d.entE s ≠ 0 then d.entE s else if (d.ent s).t ≠ 1 then 124 else if (d.ent s).s = 3 then 3 else 0
def DS.fst (d : DS) (s : Int) : Int := d.m.word true s 0
def DS.folE (d : DS) (s : Int) : Int := if d.preE s ≠ 0 then d.preE s else if d.own s (d.fst s) 3 = true then 0 else 124
def DS.folD (d : DS) (s : Int) : DS := if d.preE s = 0 then d.rd s 0 else d
def zV3 : Value := .agg #[.pointer none, .int .i64 0, .int .i64 0]
def DS.folV (d : DS) (p : Dp) (s : Int) : Value := if d.folE s = 0 then tbV p s (d.fst s) else zV3
theorem built_s90 (p : Dp) (s : Int) : Tryz.prog.built 139 [(0, .pointer (some ⟨p.g, 0, none⟩)), (1, .int .i64 s)] = some #[.pointer (some ⟨p.g, 0, none⟩), .int .i64 s, .int .i64 0] := by kernel_rfl
theorem follow_any (W : World) (p : Dp) (d : DS) (h : DB W p d) (hU : d.m.U) (s : Int) :
    Calls Tryz.prog 72 #[ptr p.g, .int .i64 s] W fun x W' => x = .returned (.tuple #[d.folV p s, .int .i64 (d.folE s)]) ∧ DB W' p (d.folD s) ∧ ButL p.f.w W W' := by
  have HE := hid (fun w (hw : DB w p d) => entry_any w p d hw s)
  have D0 := hid ((DG.startw h).new 139 [.pointer none, .int .i64 0, .int .i64 0])
  have HW := (hU.word true s 0)
  have HP := hid (fun w (hw : DB w p d) => placep_any w p d hw s 0 s 0)
  have HR := hid (fun w (hw : DB w p d) => readd_any w p d hw s 0)
  have HO := hid (fun w (hw : DB w p (d.rd s 0)) => owns_any w p (d.rd s 0) hw s (d.fst s) (d.fst s) 3)
  rw [DS.rd_own] at HO
  have hEv : d.folE s = if d.preE s ≠ 0 then d.preE s else if d.own s (d.fst s) 3 = true then 0 else 124 := rfl
  have hDv : d.folD s = if d.preE s = 0 then d.rd s 0 else d := rfl
  have hVv : d.folV p s = if d.folE s = 0 then tbV p s (d.fst s) else zV3 := rfl
  have hPv : d.preE s = if d.entE s ≠ 0 then d.entE s else if (d.ent s).t ≠ 1 then 124 else if (d.ent s).s = 3 then 3 else 0 := rfl
  rw [hVv, hEv, hDv, hPv]
  clear hVv hEv hDv hPv
  unfold DS.fst at HO ⊢
  clear h hU
  generalize d.ent s = D at *
  generalize d.entE s = DE at *
  generalize d.own s (d.m.word true s 0) 3 = O at *
  generalize d.m.word true s 0 = F at *
  simp only [tbV, ptr, En.v, plV, zV3] at *
  obtain ⟨F0, F1⟩ := HW
  have wF : wrap64 F = F := by unfold wrap64; omega
  by_cases h1 : DE = 0
  · by_cases h2 : D.t = 1
    · by_cases h3 : D.s = 3
      · simp only [h1, h2, h3, ne_eq, not_true_eq_false, if_false, if_true, Int.reduceEq, not_false_eq_true]
        go_enter Tryz.func72, Tryz.ntmps72
        go_upto_region 1 with fail
        generalize W.alloc _ = X at *
        generalize hg : W.heap.size = g4 at D0 ⊢
        have HG := hid hg
        clear hg
        go_upto_region 2 with (first | (go_at_call 62; refine (HE.out _ D0.out.db).mono ?_; rintro x w2 ⟨rfl, hb⟩; have D1 := hid (D0.out.on hb); clear hb) | (refine wpList_store_st rfl 125 _ _ rfl w2.heap.size D.cs rfl rfl (Cel.new w2 125 En.zero.cs) sizeE rfl rfl ?_; intro w3 hc hb hs; have D2 := hid (D1.out.add hc hb); clear hc hb hs))
        have HN : Hid (w2.heap.size ≠ g4) := hid (fun e => by have := (D1.out.get 0 rfl).lt; omega)
        clear D0 D1 HE
        generalize w2.heap.size = g6 at *
        have d0 := (D2.out.get 0 rfl).cell 0
        have d3 := (D2.out.get 0 rfl).cell 3
        simp only [En.cs, List.getElem?_cons_zero, List.getElem?_cons_succ] at d0 d3
        have DX := hid D2.out.tail
        clear D2
        go_wp2_with (first | (refine wpList_build_z90 rfl rfl ?_) | (refine wpList_store_st rfl 139 _ _ rfl g4 [.pointer none, .int .i64 0, .int .i64 0] rfl rfl (DX.out.get 0 rfl) size90 rfl rfl ?_; intro w4 hc hb hs; have D5 := hid (DX.out.put (by simp) hc hb); have HC := hid hc; clear hc hb hs))
        exact ret_st2 rfl rfl g4 _ rfl HC.out under90 rfl size90 ⟨rfl, D5.out.db, D5.out.but⟩
      · simp only [h1, h2, h3, ne_eq, not_true_eq_false, if_false, if_true]
        go_enter Tryz.func72, Tryz.ntmps72
        go_upto_region 1 with fail
        generalize W.alloc _ = X at *
        generalize hg : W.heap.size = g4 at D0 ⊢
        have HG := hid hg
        clear hg
        go_upto_region 2 with (first | (go_at_call 62; refine (HE.out _ D0.out.db).mono ?_; rintro x w2 ⟨rfl, hb⟩; have D1 := hid (D0.out.on hb); clear hb) | (refine wpList_store_st rfl 125 _ _ rfl w2.heap.size D.cs rfl rfl (Cel.new w2 125 En.zero.cs) sizeE rfl rfl ?_; intro w3 hc hb hs; have D2 := hid (D1.out.add hc hb); clear hc hb hs))
        have HN : Hid (w2.heap.size ≠ g4) := hid (fun e => by have := (D1.out.get 0 rfl).lt; omega)
        clear D0 D1 HE
        generalize w2.heap.size = g6 at *
        have d0 := (D2.out.get 0 rfl).cell 0
        have d3 := (D2.out.get 0 rfl).cell 3
        simp only [En.cs, List.getElem?_cons_zero, List.getElem?_cons_succ] at d0 d3
        go_upto_region 9 with (first | (refine wpList_build_f rfl 139 _ rfl _ rfl _ (built_s90 p s) ?_))
        have D3 := hid (D2.out.tail.new 139 [.pointer (some ⟨p.g, 0, none⟩), .int .i64 s, .int .i64 0])
        have HN2 : Hid (w3.heap.size ≠ g4) := hid (fun e => by have := (D2.out.get 1 rfl).lt; omega)
        clear D2 d0 d3
        generalize w3.alloc _ = w5 at *
        generalize w3.heap.size = g8 at *
        go_upto_region 10 with (first | (go_at_call 77; refine (HP.out _ D3.out.db).mono ?_; rintro x w6 ⟨rfl, hb⟩; have D4 := hid (D3.out.on hb); clear hb) | (go_at_call 79; refine (HR.out _ D4.out.db).mono ?_; rintro x w7 ⟨rfl, hd, hb⟩; have D5 := hid (D4.out.step hd hb (fun _ hk => hk)); have c8 := (D5.out.get 0 rfl).cell 2; have fz := (D5.out.get 0 rfl).free 2; simp only [List.getElem?_cons_zero, List.getElem?_cons_succ] at c8; clear hb hd) | (refine wpList_load_g rfl 139 _ rfl g8 rfl (D3.out.get 0 rfl) rfl under90 size90 ?_))
        have D6 := hid (D5.out.put (by simpa using fun e => HN2.out e.symm) ((D5.out.get 0 rfl).setCell 2 (.int .i64 F)) (.setCell _ _ _ _ (by simp)))
        simp only [List.set_cons_succ, List.set_cons_zero] at D6
        clear D3 D4 D5 c8 fz HP HR
        generalize w7.setCell _ _ = w8 at *
        have c8 := (D6.out.get 0 rfl).cell 2
        simp only [List.getElem?_cons_zero, List.getElem?_cons_succ] at c8
        cases O with
        | true =>
          go_wp2_with (first | (go_at_call 76; refine (HO.out _ D6.out.db).mono ?_; rintro x w9 ⟨rfl, hb⟩; have D7 := hid (D6.out.on hb); clear hb) | (refine wpList_load_g rfl 139 _ rfl g8 rfl (D7.out.get 0 rfl) rfl under90 size90 ?_) | (refine wpList_load_g rfl 139 _ rfl g8 rfl (D6.out.get 0 rfl) rfl under90 size90 ?_) | (refine wpList_store_st rfl 139 _ _ rfl g4 [.pointer (some ⟨p.g, 0, none⟩), .int .i64 s, .int .i64 F] rfl rfl (D7.out.get 1 rfl) size90 rfl rfl ?_; intro w4 hc hb hs; have D8 := hid (D7.out.tail.put (by simp) hc hb); have HC := hid hc; clear hc hb hs))
          exact ret_st2 rfl rfl g4 _ rfl HC.out under90 rfl size90 ⟨rfl, D8.out.db, D8.out.but⟩
        | false =>
          go_wp2_with (first | (go_at_call 76; refine (HO.out _ D6.out.db).mono ?_; rintro x w9 ⟨rfl, hb⟩; have D7 := hid (D6.out.on hb); clear hb) | (refine wpList_build_z90 rfl rfl ?_) | (refine wpList_load_g rfl 139 _ rfl g8 rfl (D6.out.get 0 rfl) rfl under90 size90 ?_) | (refine wpList_store_st rfl 139 _ _ rfl g4 [.pointer none, .int .i64 0, .int .i64 0] rfl rfl (D7.out.get 1 rfl) size90 rfl rfl ?_; intro w4 hc hb hs; have D8 := hid (D7.out.tail.put (by simp) hc hb); have HC := hid hc; clear hc hb hs))
          exact ret_st2 rfl rfl g4 _ rfl HC.out under90 rfl size90 ⟨rfl, D8.out.db, D8.out.but⟩
    · simp only [h1, h2, ne_eq, not_true_eq_false, if_false, if_true, Int.reduceEq, not_false_eq_true]
      go_enter Tryz.func72, Tryz.ntmps72
      go_upto_region 1 with fail
      generalize W.alloc _ = X at *
      generalize hg : W.heap.size = g4 at D0 ⊢
      have HG := hid hg
      clear hg
      go_upto_region 2 with (first | (go_at_call 62; refine (HE.out _ D0.out.db).mono ?_; rintro x w2 ⟨rfl, hb⟩; have D1 := hid (D0.out.on hb); clear hb) | (refine wpList_store_st rfl 125 _ _ rfl w2.heap.size D.cs rfl rfl (Cel.new w2 125 En.zero.cs) sizeE rfl rfl ?_; intro w3 hc hb hs; have D2 := hid (D1.out.add hc hb); clear hc hb hs))
      have HN : Hid (w2.heap.size ≠ g4) := hid (fun e => by have := (D1.out.get 0 rfl).lt; omega)
      clear D0 D1 HE
      generalize w2.heap.size = g6 at *
      have d0 := (D2.out.get 0 rfl).cell 0
      have d3 := (D2.out.get 0 rfl).cell 3
      simp only [En.cs, List.getElem?_cons_zero, List.getElem?_cons_succ] at d0 d3
      have DX := hid D2.out.tail
      clear D2
      go_wp2_with (first | (refine wpList_build_z90 rfl rfl ?_) | (refine wpList_store_st rfl 139 _ _ rfl g4 [.pointer none, .int .i64 0, .int .i64 0] rfl rfl (DX.out.get 0 rfl) size90 rfl rfl ?_; intro w4 hc hb hs; have D5 := hid (DX.out.put (by simp) hc hb); have HC := hid hc; clear hc hb hs))
      exact ret_st2 rfl rfl g4 _ rfl HC.out under90 rfl size90 ⟨rfl, D5.out.db, D5.out.but⟩
  · simp only [h1, ne_eq, if_false, if_true, not_false_eq_true]
    go_enter Tryz.func72, Tryz.ntmps72
    go_upto_region 1 with fail
    generalize W.alloc _ = X at *
    generalize hg : W.heap.size = g4 at D0 ⊢
    have HG := hid hg
    clear hg
    go_upto_region 2 with (first | (go_at_call 62; refine (HE.out _ D0.out.db).mono ?_; rintro x w2 ⟨rfl, hb⟩; have D1 := hid (D0.out.on hb); clear hb) | (refine wpList_store_st rfl 125 _ _ rfl w2.heap.size D.cs rfl rfl (Cel.new w2 125 En.zero.cs) sizeE rfl rfl ?_; intro w3 hc hb hs; have D2 := hid (D1.out.add hc hb); clear hc hb hs))
    have HN : Hid (w2.heap.size ≠ g4) := hid (fun e => by have := (D1.out.get 0 rfl).lt; omega)
    clear D0 D1 HE
    generalize w2.heap.size = g6 at *
    have d0 := (D2.out.get 0 rfl).cell 0
    have d3 := (D2.out.get 0 rfl).cell 3
    simp only [En.cs, List.getElem?_cons_zero, List.getElem?_cons_succ] at d0 d3
    have DX := hid D2.out.tail
    clear D2
    go_wp2_with (first | (refine wpList_build_z90 rfl rfl ?_) | (refine wpList_store_st rfl 139 _ _ rfl g4 [.pointer none, .int .i64 0, .int .i64 0] rfl rfl (DX.out.get 0 rfl) size90 rfl rfl ?_; intro w4 hc hb hs; have D5 := hid (DX.out.put (by simp) hc hb); have HC := hid hc; clear hc hb hs))
    exact ret_st2 rfl rfl g4 _ rfl HC.out under90 rfl size90 ⟨rfl, D5.out.db, D5.out.but⟩
end Go.Proofs.YtgbpbfnpeeciaaaGreat
