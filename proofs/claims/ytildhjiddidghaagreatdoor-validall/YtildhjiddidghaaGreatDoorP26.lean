import Derived.Test.YtildhjiddidghaaGreatDoorP25
import Derived.Test.YtildhjiddidghaaGreatDoorP24
import Derived.Test.YtildhjiddidghaaGreatDoorP22
import Derived.Test.YtildhjiddidghaaGreatDoorP21
import Derived.Test.YtildhjiddidghaaGreatDoorP01
import Derived.Test.YtildhjiddidghaaGreatDoorP17
namespace Go.Proofs.YtildhjiddidghaaGreatDoor
open Go.RowKit
set_option maxHeartbeats 8000000
set_option maxRecDepth 100000
theorem rencode_any (W : World) (x : En) : Calls Tryz.prog 121 #[x.v] W fun e W' => e = .returned (.tuple #[twoV (e0 x) (e1 x), .int .i64 (chk x)]) ∧ Below W.heap.size W W' := by
  have HX := hid (Bx.new W 121 158 x.cs (two 0 0))
  have HK := hid (fun W => rcheck_any W x)
  cases hok : x.ok
  · have hc : chk x = 110 := by simp [chk, hok]
    have h0 : e0 x = 0 := by simp [e0, hok]
    have h1 : e1 x = 0 := by simp [e1, hok]
    rw [hc] at HK
    rw [hc, h0, h1]
    clear hc h0 h1 hok
    simp only [twoV, two, En.v] at *
    go_enter Tryz.func121, Tryz.ntmps121
    go_upto_region 1 with fail
    generalize hX : (W.alloc _).alloc _ = X at *
    clear hX
    generalize W.heap.size + 1 = g2 at *
    generalize W.heap.size = g1 at *
    go_wp2_with (first | (refine wpList_load_mid rfl 121 _ rfl g1 0 rfl _ _ HX.out.a.range underR rfl (by rw [sizeR]; rfl) ?_) | (go_at_call 155; refine (HK.out _).mono ?_; rintro e w1 ⟨rfl, hb1⟩; have HX1 := hid (HX.out.on hb1); clear hb1) | (refine wpList_store_st rfl 158 _ _ rfl g2 (two 0 0) rfl rfl HX1.out.b sizeA rfl rfl ?_; intro w2 hc2 hb2 hs2; have HF := hid (HX1.out.put hc2 hb2); clear hc2 hb2 hs2))
    exact ret_st2 rfl rfl g2 _ rfl HF.out.1 underA rfl sizeA ⟨rfl, HF.out.2⟩
  · have hO := x.ok_iff.1 hok
    have hc : chk x = 0 := by simp [chk, hok]
    have h0 : e0 x = x.w := by simp [e0, hok]
    have h1 : e1 x = x.r := by simp [e1, hok]
    have q2 : x.r % 4294967296 = x.r := by have := hO.r0; have := hO.r1; omega
    have q3 : x.e = false → x.w = x.t + 16 * x.s + 65536 * x.o := fun he => by rw [En.w, he]; simp
    have q4 : x.e = true → x.w = x.t + 16 * x.s + 65536 * x.o + 256 := fun he => by rw [En.w, he]; simp
    have q5 := En.w_range hO
    have b0 := hO.t0
    have b1 := hO.t1
    have b2 := hO.o0
    have b3 := hO.o1
    have b4 := hO.s0
    have b5 := hO.s1
    rw [hc] at HK
    rw [hc, h0, h1]
    clear hc h0 h1 hok hO
    simp only [twoV, two, En.v] at HX HK ⊢
    generalize x.w = xw at *
    obtain ⟨t, o, r, s, e⟩ := x
    simp only [En.cs] at *
    go_enter Tryz.func121, Tryz.ntmps121
    go_upto_region 1 with fail
    generalize hX : (W.alloc _).alloc _ = X at *
    clear hX
    generalize W.heap.size + 1 = g2 at *
    generalize W.heap.size = g1 at *
    have HQ := hid (And.intro q3 q4)
    clear q3 q4
    go_upto_region 2 with (first | (refine wpList_load_mid rfl 121 _ rfl g1 0 rfl _ _ HX.out.a.range underR rfl (by rw [sizeR]; rfl) ?_) | (go_at_call 155; refine (HK.out _).mono ?_; rintro e1 w1 ⟨rfl, hb1⟩; have HX1 := hid (HX.out.on hb1); clear hb1))
    have c0 := HX1.out.a.cell 0
    have c1 := HX1.out.a.cell 1
    have c2 := HX1.out.a.cell 2
    have c3 := HX1.out.a.cell 3
    have c4 := HX1.out.a.cell 4
    simp only [List.getElem?_cons_zero, List.getElem?_cons_succ] at c0 c1 c2 c3 c4
    obtain ⟨q3, q4⟩ := HQ.out
    clear HQ
    cases e
    · have q6 := q3 rfl
      subst q6
      clear q3 q4
      go_wp2_with (refine wpList_store_st rfl 158 _ _ rfl g2 [Value.int .u32 (t + 16 * s + 65536 * o), .int .u32 r] rfl rfl HX1.out.b sizeA rfl rfl ?_; intro w2 hc2 hb2 hs2; have HF := hid (HX1.out.put hc2 hb2); clear hc2 hb2 hs2)
      exact ret_st2 rfl rfl g2 _ rfl HF.out.1 underA rfl sizeA ⟨rfl, HF.out.2⟩
    · have q6 := q4 rfl
      subst q6
      clear q3 q4
      go_wp2_with (refine wpList_store_st rfl 158 _ _ rfl g2 [Value.int .u32 (t + 16 * s + 65536 * o + 256), .int .u32 r] rfl rfl HX1.out.b sizeA rfl rfl ?_; intro w2 hc2 hb2 hs2; have HF := hid (HX1.out.put hc2 hb2); clear hc2 hb2 hs2)
      exact ret_st2 rfl rfl g2 _ rfl HF.out.1 underA rfl sizeA ⟨rfl, HF.out.2⟩
structure R4 (W x : World) (g1 g2 g4 g5 : Nat) (a b : List Value) (y : En) (c : List Value) : Prop where
  c1 : Cel x g1 158 a
  c2 : Cel x g2 121 b
  c4 : Cel x g4 121 y.cs
  c5 : Cel x g5 158 c
  below : Below W.heap.size W x
  l2 : W.heap.size ≤ g2
theorem R4.put {W x x' : World} {g1 g2 g4 g5 : Nat} {a b c es : List Value} {y : En} (k : R4 W x g1 g2 g4 g5 a b y c) (hc : Cel x' g2 121 es) (hb : ButL [g2] x x') : Cel x' g2 121 es ∧ Below W.heap.size W x' :=
  ⟨hc, k.below.trans (hb.below (B := W.heap.size) (by simpa using k.l2) k.below.size)⟩
theorem rdecode_any (W : World) (a b : Int) (a0 : 0 ≤ a) (a1 : a < 4294967296) (b0 : 0 ≤ b) (b1 : b < 4294967296) : Calls Tryz.prog 123 #[twoV a b] W fun e W' => e = .returned (.tuple #[(dec a b).v, .int .i64 (decE a b)]) ∧ Below W.heap.size W W' := by
  have HX := hid (Bx.new W 158 121 (two a b) En.zero.cs)
  have wa : wrap64 a = a := w64 a a0 a1
  have wb : wrap64 b = b := w64 b b0 b1
  have f1 : a.tmod 8 = (fld a b).t := Int.tmod_eq_emod_of_nonneg a0
  have f2 : (wrap64 (a.tdiv 65536)).tmod 64 = (fld a b).o := by
    rw [Int.tdiv_eq_ediv_of_nonneg a0, w64 _ (by omega) (by omega), Int.tmod_eq_emod_of_nonneg (by omega)]; rfl
  have f3 : b.tmod 64 = (fld a b).r := Int.tmod_eq_emod_of_nonneg b0
  have f4 : (wrap64 (a.tdiv 16)).tmod 4 = (fld a b).s := by
    rw [Int.tdiv_eq_ediv_of_nonneg a0, w64 _ (by omega) (by omega), Int.tmod_eq_emod_of_nonneg (by omega)]; rfl
  have f5 : ((wrap64 (a.tdiv 256)).tmod 2 == 1) = (fld a b).e := by
    rw [Int.tdiv_eq_ediv_of_nonneg a0, w64 _ (by omega) (by omega), Int.tmod_eq_emod_of_nonneg (by omega)]; rfl
  have HE := hid (fun W => rencode_any W (fld a b))
  have hd1 : (fld a b).ok = false → dok a b = false := fun h => by simp [dok, h]
  have hd2 : (fld a b).ok = true → dok a b = same2 (e0 (fld a b)) (e1 (fld a b)) a b := fun h => by simp [dok, h]
  have hk1 : (fld a b).ok = false → chk (fld a b) = 110 := fun h => by simp [chk, h]
  have hk2 : (fld a b).ok = true → chk (fld a b) = 0 := fun h => by simp [chk, h]
  have hv1 : dok a b = false → dec a b = En.zero ∧ decE a b = 110 := fun h => by simp [dec, decE, h]
  have hv2 : dok a b = true → dec a b = fld a b ∧ decE a b = 0 := fun h => by simp [dec, decE, h]
  generalize hx : fld a b = x at *
  clear hx a0 a1 b0 b1
  generalize dec a b = D at *
  generalize decE a b = DE at *
  generalize dok a b = dk at *
  generalize chk x = ck at *
  generalize e0 x = v0 at *
  generalize e1 x = v1 at *
  have HH := hid (And.intro hd1 (And.intro hd2 (And.intro hk1 (And.intro hk2 (And.intro hv1 hv2)))))
  clear hd1 hd2 hk1 hk2 hv1 hv2
  simp only [twoV, En.v] at *
  simp only [En.zero, En.cs] at HX
  go_enter Tryz.func123, Tryz.ntmps123
  go_upto_region 1 with fail
  generalize hX : (W.alloc _).alloc _ = X at *
  clear hX
  generalize W.heap.size + 1 = g2 at *
  generalize W.heap.size = g1 at *
  have c0 := HX.out.a.cell 0
  have c1 := HX.out.a.cell 1
  simp only [two, List.getElem?_cons_zero, List.getElem?_cons_succ] at c0 c1
  go_upto_region 2 with fail
  go_upto_region 3 with (refine wpList_store_st rfl 121 _ _ rfl X.heap.size [.int .i64 x.t, .int .i64 x.o, .int .i64 x.r, .int .i64 x.s, .bool x.e] rfl rfl (Cel.new X 121 En.zero.cs) sizeR rfl rfl ?_; intro w2 hc2 hb2 hs2; have H4 : Hid (Cel w2 X.heap.size 121 x.cs) := hid hc2; have HX2 : Hid (Bx W w2 g1 g2 158 121 (two a b) En.zero.cs) := hid ⟨new_store HX.out.a hb2, new_store HX.out.b hb2, new_below HX.out.below hb2, HX.out.lh⟩; clear hc2 hb2 hs2)
  clear HX c0 c1 f1 f2 f3 f4 f5 wa wb
  generalize X.heap.size = g4 at *
  go_upto_region 4 with (first | (refine wpList_load_mid rfl 121 _ rfl g4 0 rfl _ _ H4.out.range underR rfl (by rw [sizeR]; rfl) ?_) | (go_at_call 121; refine (HE.out _).mono ?_; rintro e w3 ⟨rfl, hb3⟩; have HX3 := hid (HX2.out.on hb3); have H43 := hid (H4.out.on hb3); clear hb3) | (refine wpList_store_st rfl 158 _ _ rfl w3.heap.size (two v0 v1) rfl rfl (Cel.new w3 158 (two 0 0)) sizeA rfl rfl ?_; intro w4 hc4 hb4 hs4; have HK : Hid (R4 W w4 g1 g2 g4 w3.heap.size (two a b) En.zero.cs x (two v0 v1)) := hid ⟨new_store HX3.out.a hb4, new_store HX3.out.b hb4, new_store H43.out hb4, hc4, new_below HX3.out.below hb4, HX3.out.lh⟩; clear hc4 hb4 hs4))
  clear HX2 HX3 H4 H43 HE
  generalize w3.heap.size = g5 at *
  obtain ⟨hd1, hd2, hk1, hk2, hv1, hv2⟩ := HH.out
  clear HH
  cases hok : x.ok
  · have k1 := hk1 hok
    obtain ⟨k2, k3⟩ := hv1 (hd1 hok)
    subst k1 k2 k3
    clear hd1 hd2 hk1 hk2 hv1 hv2 hok
    go_wp2_with (refine wpList_store_st rfl 121 _ _ rfl g2 En.zero.cs rfl rfl HK.out.c2 sizeR rfl rfl ?_; intro w5 hc5 hb5 hs5; have HF := hid (HK.out.put hc5 hb5); clear hc5 hb5 hs5)
    exact ret_st2 rfl rfl g2 _ rfl HF.out.1 underR rfl sizeR ⟨rfl, HF.out.2⟩
  · have k1 := hk2 hok
    have k2 := hd2 hok
    subst k1 k2
    clear hd1 hd2 hk1 hk2 hok
    cases hs : same2 v0 v1 a b
    · obtain ⟨k2, k3⟩ := hv1 hs
      subst k2 k3
      clear hv1 hv2
      have HS := hid hs
      clear hs
      go_wp2_with (first | (refine wpList_load_g rfl 158 _ rfl g5 rfl HK.out.c5 rfl underA sizeA ?_) | (refine wpList_load_g rfl 158 _ rfl g1 rfl HK.out.c1 rfl underA sizeA ?_) | (refine wpList_ne rfl 158 _ _ rfl _ _ rfl rfl guardA false (by rw [← HS.out]; exact run_equalIn_two _ 9998 v0 v1 a b) ?_) | (refine wpList_store_st rfl 121 _ _ rfl g2 En.zero.cs rfl rfl HK.out.c2 sizeR rfl rfl ?_; intro w5 hc5 hb5 hs5; have HF := hid (HK.out.put hc5 hb5); clear hc5 hb5 hs5))
      exact ret_st2 rfl rfl g2 _ rfl HF.out.1 underR rfl sizeR ⟨rfl, HF.out.2⟩
    · obtain ⟨k2, k3⟩ := hv2 hs
      subst k2 k3
      clear hv1 hv2
      have HS := hid hs
      clear hs
      go_wp2_with (first | (refine wpList_load_g rfl 158 _ rfl g5 rfl HK.out.c5 rfl underA sizeA ?_) | (refine wpList_load_g rfl 158 _ rfl g1 rfl HK.out.c1 rfl underA sizeA ?_) | (refine wpList_load_g rfl 121 _ rfl g4 rfl HK.out.c4 rfl underR sizeR ?_) | (refine wpList_ne rfl 158 _ _ rfl _ _ rfl rfl guardA true (by rw [← HS.out]; exact run_equalIn_two _ 9998 v0 v1 a b) ?_) | (refine wpList_store_st rfl 121 _ _ rfl g2 D.cs rfl rfl HK.out.c2 sizeR rfl rfl ?_; intro w5 hc5 hb5 hs5; have HF := hid (HK.out.put hc5 hb5); clear hc5 hb5 hs5))
      exact ret_st2 rfl rfl g2 _ rfl HF.out.1 underR rfl sizeR ⟨rfl, HF.out.2⟩
end Go.Proofs.YtildhjiddidghaaGreatDoor
namespace Go.Proofs.YtildhjiddidghaaGreatDoor
open Go.RowKit
structure Rp where
  g : Nat
  ge : Nat
  cap : Nat
  r : Rf
def Rp.all (p : Rp) : List Nat := p.g :: p.ge :: p.r.all
def ecs (E : List En) : List Value := E.flatMap En.cs
theorem ecs_len (E : List En) : (ecs E).length = E.length * 5 := by
  induction E with
  | nil => rfl
  | cons x E ih => simp only [ecs, List.flatMap_cons, List.length_append, List.length_cons] at ih ⊢; rw [ih]; simp [En.cs]; omega
theorem ecs_at : ∀ (E : List En) (k j : Nat), k < E.length → j < 5 → (ecs E)[k * 5 + j]? = (E.getD k En.zero).cs[j]?
  | [], k, j, h, _ => by simp at h
  | x :: E, 0, j, _, hj => by
    rw [Nat.zero_mul, Nat.zero_add]
    show (x.cs ++ ecs E)[j]? = x.cs[j]?
    exact List.getElem?_append_left (by simpa [En.cs] using hj)
  | x :: E, k + 1, j, h, hj => by
    have ih := ecs_at E k j (by simpa using h) hj
    show (x.cs ++ ecs E)[(k + 1) * 5 + j]? = (E.getD k En.zero).cs[j]?
    rw [List.getElem?_append_right (by simp [En.cs]; omega), ← ih]
    congr 1
    simp [En.cs]
    omega
theorem ecs_fld : ∀ (E : List En) (k j : Nat) (x : En) (v : Value), k < E.length → j < 5 → x.cs = (E.getD k En.zero).cs.set j v → (ecs E).set (k * 5 + j) v = ecs (E.set k x)
  | [], k, j, x, v, h, _, _ => by simp at h
  | y :: E, 0, j, x, v, _, hj, hx => by
    rw [Nat.zero_mul, Nat.zero_add]
    show (y.cs ++ ecs E).set j v = x.cs ++ ecs E
    rw [hx, List.set_append_left _ _ (by simpa [En.cs] using hj)]
    rfl
  | y :: E, k + 1, j, x, v, h, hj, hx => by
    have ih := ecs_fld E k j x v (by simpa using h) hj hx
    show (y.cs ++ ecs E).set ((k + 1) * 5 + j) v = y.cs ++ ecs (E.set k x)
    rw [List.set_append_right _ _ (by simp [En.cs]; omega), ← ih]
    congr 2
    simp [En.cs]
    omega
theorem ecs_set5 : ∀ (E : List En) (k : Nat) (x : En), k < E.length → (((((ecs E).set (k * 5) (.int .i64 x.t)).set (k * 5 + 1) (.int .i64 x.o)).set (k * 5 + 2) (.int .i64 x.r)).set (k * 5 + 3) (.int .i64 x.s)).set (k * 5 + 4) (.bool x.e) = ecs (E.set k x)
  | [], k, x, h => by simp at h
  | y :: E, 0, x, _ => by
    show List.set (List.set (List.set (List.set (List.set (y.cs ++ ecs E) _ _) _ _) _ _) _ _) _ _ = x.cs ++ ecs E
    simp [En.cs]
  | y :: E, k + 1, x, h => by
    have ih := ecs_set5 E k x (by simpa using h)
    show List.set (List.set (List.set (List.set (List.set (y.cs ++ ecs E) _ _) _ _) _ _) _ _) _ _ = y.cs ++ ecs (E.set k x)
    rw [← ih]
    have e : ∀ i, (k + 1) * 5 + i = (k * 5 + i) + 5 := fun i => by omega
    have e0 : (k + 1) * 5 = k * 5 + 5 := by omega
    rw [e 1, e 2, e 3, e 4, e0]
    simp only [En.cs, List.cons_append, List.nil_append, List.set_cons_succ]
structure RDB (w : World) (p : Rp) (d : DS) : Prop where
  mem : RMem w p.r d.m
  cel : Cel w p.g 62 [ptr p.r.g, .slice (some ⟨p.ge, 0, none⟩) d.m.ns p.cap, .int .i64 d.b]
  ents : ∃ rest, Cel w p.ge 121 (ecs d.E ++ rest)
  ok : d.Ok
theorem RMem.ty_w {w : World} {r : Rf} {m : MS} (h : RMem w r m) : ∀ k ∈ r.all, ∀ t cs, Cel w k t cs → t = 115 ∨ t = 40 ∨ t = 22 := by
  intro k hk t cs hc
  rcases Rf.all_mem hk with rfl | rfl | ⟨j, hj, hb⟩
  · exact .inl (hc.ty h.cel)
  · obtain ⟨cur, h1, _⟩ := h.pages
    have h1' : Cel w r.gp 40 cur.toList := by show w.heap[r.gp]? = _; rw [h1]
    exact .inr (.inl (hc.ty h1'))
  · exact .inr (.inr ((h.pg j (by rw [← h.len]; exact hj)).ty hb hc))
theorem RMem.off {w : World} {r : Rf} {m : MS} (h : RMem w r m) {g : Nat} {t : TypeId} {cs : List Value} (hc : Cel w g t cs) (ht : t ≠ 115 ∧ t ≠ 40 ∧ t ≠ 22) : g ∉ r.all := fun hm => by
  rcases h.ty_w g hm t cs hc with e | e | e
  · exact ht.1 e
  · exact ht.2.1 e
  · exact ht.2.2 e
theorem RDB.lt {w : World} {p : Rp} {d : DS} (h : RDB w p d) : ∀ k ∈ p.all, k < w.heap.size := by
  intro k hk
  simp only [Rp.all, List.mem_cons] at hk
  rcases hk with rfl | rfl | hk
  · exact h.cel.lt
  · obtain ⟨_, h1⟩ := h.ents; exact h1.lt
  · exact h.mem.lt k hk
theorem RDB.ne {w : World} {p : Rp} {d : DS} (h : RDB w p d) : p.g ≠ p.ge := fun e => by
  obtain ⟨_, h1⟩ := h.ents
  have := h.cel
  rw [e] at this
  exact absurd (this.ty h1) (by decide)
theorem RDB.frame {w w' : World} {p : Rp} {d : DS} {G : List Nat} (h : RDB w p d) (hb : ButL G w w') (hd : ∀ k ∈ p.all, k ∉ G) : RDB w' p d :=
  ⟨h.mem.frame hb (fun k hk => hd k (by simp [Rp.all, hk])), h.cel.but hb (hd _ (by simp [Rp.all])), by obtain ⟨r, h1⟩ := h.ents; exact ⟨r, h1.but hb (hd _ (by simp [Rp.all]))⟩, h.ok⟩
theorem RDB.on {w w' : World} {p : Rp} {d : DS} (h : RDB w p d) (hb : Below w.heap.size w w') : RDB w' p d := h.frame (G := []) (.of hb) (by simp)
theorem RDB.c0 {w : World} {p : Rp} {d : DS} (h : RDB w p d) : w.cell? ⟨p.g, 0, none⟩ = some (.pointer (some ⟨p.r.g, 0, none⟩)) := h.cel.cell 0
theorem RDB.c1 {w : World} {p : Rp} {d : DS} (h : RDB w p d) : w.cell? ⟨p.g, 1, none⟩ = some (.slice (some ⟨p.ge, 0, none⟩) d.m.ns p.cap) := h.cel.cell 1
theorem RDB.c2 {w : World} {p : Rp} {d : DS} (h : RDB w p d) : w.cell? ⟨p.g, 2, none⟩ = some (.int .i64 d.b) := h.cel.cell 2
theorem RDB.e0 {w : World} {p : Rp} {d : DS} (h : RDB w p d) (k j : Nat) (hk : k < d.m.ns) (hj : j < 5) : w.cell? ⟨p.ge, k * 5 + j, none⟩ = (d.at k).cs[j]? := by
  obtain ⟨r, h1⟩ := h.ents
  have hl : k < d.E.length := by rw [h.ok.len]; exact hk
  rw [h1.cell, List.getElem?_append_left (by rw [ecs_len]; omega), ecs_at d.E k j hl hj]
  rfl
theorem RDB.row {w : World} {p : Rp} {d : DS} (h : RDB w p d) (k : Nat) (hk : k < d.m.ns) : w.cell? ⟨p.ge, k * 5, none⟩ = some (.int .i64 (d.at k).t) ∧ w.cell? ⟨p.ge, k * 5 + 1, none⟩ = some (.int .i64 (d.at k).o) ∧ w.cell? ⟨p.ge, k * 5 + 2, none⟩ = some (.int .i64 (d.at k).r) ∧ w.cell? ⟨p.ge, k * 5 + 3, none⟩ = some (.int .i64 (d.at k).s) ∧ w.cell? ⟨p.ge, k * 5 + 4, none⟩ = some (.bool (d.at k).e) :=
  ⟨h.e0 k 0 hk (by decide), h.e0 k 1 hk (by decide), h.e0 k 2 hk (by decide), h.e0 k 3 hk (by decide), h.e0 k 4 hk (by decide)⟩
theorem RDB.fz {w : World} {p : Rp} {d : DS} (h : RDB w p d) (j : Nat) : w.frozen? ⟨p.ge, j, none⟩ = false := by
  obtain ⟨r, h1⟩ := h.ents
  exact h1.free j
theorem ButL.trans_sub {G G' : List Nat} {a b c : World} (h : ButL G a b) (h' : ButL G' b c) (hs : ∀ k ∈ G', k ∈ G ∨ a.heap.size ≤ k) : ButL G a c :=
  ⟨h'.os.trans h.os, h'.tape.trans h.tape, h'.output.trans h.output, Nat.le_trans h.size h'.size, fun k hk hn => (h'.block k (Nat.lt_of_lt_of_le hk h.size) (fun hm => (hs k hm).elim hn (fun e => by omega))).trans (h.block k hk hn)⟩
structure RG (W w : World) (p q : Rp) (d : DS) : Prop where
  db : RDB w q d
  but : ButL p.all W w
  g : q.g = p.g
  sub : ∀ k ∈ q.all, k ∈ p.all ∨ W.heap.size ≤ k
theorem RG.start {W : World} {p : Rp} {d : DS} (h : RDB W p d) : RG W W p p d := ⟨h, .refl _ _, rfl, fun _ hk => .inl hk⟩
theorem RG.on {W w w' : World} {p q : Rp} {d : DS} (h : RG W w p q d) (hb : Below w.heap.size w w') : RG W w' p q d := ⟨h.db.on hb, h.but.on hb, h.g, h.sub⟩
theorem RG.ents {W w w' : World} {p q : Rp} {d : DS} {E' : List En} {rest : List Value} (h : RG W w p q d) (hc : Cel w' q.ge 121 (ecs E' ++ rest)) (hb : ButL [q.ge] w w') (hk : DS.Ok { d with E := E' }) : RG W w' p q { d with E := E' } := by
  obtain ⟨r0, h1⟩ := h.db.ents
  refine ⟨⟨h.db.mem.frame hb (fun k hk hm => ?_), h.db.cel.but hb (by rw [List.mem_singleton]; exact h.db.ne), ⟨rest, hc⟩, hk⟩, h.but.trans_sub hb (fun k hk => h.sub k (by rw [List.mem_singleton] at hk; rw [hk]; simp [Rp.all])), h.g, h.sub⟩
  rw [List.mem_singleton] at hm
  subst hm
  exact h.db.mem.off h1 (by decide) hk
theorem RG.lay5 {W w w' : World} {p q : Rp} {d : DS} (h : RG W w p q d) (k : Nat) (hk : k < d.m.ns) (x : En) (hx : x.ok = true) (ho : x.o < (d.m.ns : Int))
    (e : ((((w.setCell ⟨q.ge, k * 5, none⟩ (.int .i64 x.t)).setCell ⟨q.ge, k * 5 + 1, none⟩ (.int .i64 x.o)).setCell ⟨q.ge, k * 5 + 2, none⟩ (.int .i64 x.r)).setCell ⟨q.ge, k * 5 + 3, none⟩ (.int .i64 x.s)).setCell ⟨q.ge, k * 5 + 4, none⟩ (.bool x.e) = w') : RG W w' p q (d.lay k x) := by
  subst e
  obtain ⟨r, h1⟩ := h.db.ents
  have hl : k < d.E.length := by rw [h.db.ok.len]; exact hk
  have hn : (ecs d.E).length = d.E.length * 5 := ecs_len _
  refine h.ents (E' := d.E.set k x) (rest := r) ?_ (((((ButL.setCell w q.ge (k * 5) _ (by simp)).trans (.setCell _ q.ge (k * 5 + 1) _ (by simp))).trans (.setCell _ q.ge (k * 5 + 2) _ (by simp))).trans (.setCell _ q.ge (k * 5 + 3) _ (by simp))).trans (.setCell _ q.ge (k * 5 + 4) _ (by simp))) (h.db.ok.lay k x hx ho)
  have h5 := ((((h1.setCell (k * 5) (.int .i64 x.t)).setCell (k * 5 + 1) (.int .i64 x.o)).setCell (k * 5 + 2) (.int .i64 x.r)).setCell (k * 5 + 3) (.int .i64 x.s)).setCell (k * 5 + 4) (.bool x.e)
  rw [← ecs_set5 d.E k x hl]
  rw [List.set_append_left _ _ (by omega), List.set_append_left _ _ (by simp only [List.length_set]; omega), List.set_append_left _ _ (by simp only [List.length_set]; omega), List.set_append_left _ _ (by simp only [List.length_set]; omega), List.set_append_left _ _ (by simp only [List.length_set]; omega)] at h5
  exact h5
theorem RG.fld {W w : World} {p q : Rp} {d : DS} (h : RG W w p q d) (k : Nat) (hk : k < d.m.ns) (j : Nat) (hj : j < 5) (x : En) (v : Value) (hx : x.ok = true) (ho : x.o < (d.m.ns : Int)) (he : x.cs = (d.at k).cs.set j v) : RG W (w.setCell ⟨q.ge, k * 5 + j, none⟩ v) p q (d.lay k x) := by
  obtain ⟨r, h1⟩ := h.db.ents
  have hl : k < d.E.length := by rw [h.db.ok.len]; exact hk
  have hn : (ecs d.E).length = d.E.length * 5 := ecs_len _
  refine h.ents (E' := d.E.set k x) (rest := r) ?_ (.setCell _ _ _ _ (by simp)) (h.db.ok.lay k x hx ho)
  have h5 := h1.setCell (k * 5 + j) v
  rw [List.set_append_left _ _ (by omega), ecs_fld d.E k j x v hl hj he] at h5
  exact h5
theorem RG.mem {W w w' : World} {p q : Rp} {d : DS} {r' : Rf} {m' : MS} (h : RG W w p q d) (hs : RSt w w' q.r r' m') (hn : m'.ns = d.m.ns) : RG W w' p { q with r := r' } { d with m := m' } := by
  obtain ⟨r0, h1⟩ := h.db.ents
  have hall : ∀ k ∈ q.r.all, k ∈ q.all := fun k hk => by simp [Rp.all, hk]
  refine ⟨⟨hs.mem, ?_, ⟨r0, h1.but hs.but (h.db.mem.off h1 (by decide))⟩, ?_⟩, h.but.trans_sub hs.but (fun k hk => h.sub k (hall k hk)), h.g, fun k hk => ?_⟩
  · have := h.db.cel.but hs.but (h.db.mem.off h.db.cel (by decide))
    show Cel w' q.g 62 [ptr r'.g, .slice (some ⟨q.ge, 0, none⟩) m'.ns q.cap, .int .i64 d.b]
    rw [hs.g, hn]
    exact this
  · obtain ⟨a, b, c, e, f, g⟩ := h.db.ok
    exact ⟨by simpa only [hn] using a, by simpa only [hn] using b, fun k hk => c k (by have hk' : k < m'.ns := hk; omega), fun k hk => by
      have hk' : k < m'.ns := hk
      have := e k (by omega)
      show (d.at k).o < (m'.ns : Int)
      rw [hn]; exact this, f, g⟩
  · simp only [Rp.all, List.mem_cons] at hk
    rcases hk with hk | hk | hk
    · exact h.sub k (by simp [Rp.all, hk])
    · exact h.sub k (by simp [Rp.all, hk])
    · rcases hs.sub k hk with hk | hk
      · exact h.sub k (hall k hk)
      · exact .inr (Nat.le_trans h.but.size hk)
theorem RG.born {W w : World} {p q : Rp} {d : DS} (h : RG W w p q d) (hb : d.b < 64) : RG W (w.setCell ⟨q.g, 2, none⟩ (.int .i64 (d.b + 1))) p q { d with b := d.b + 1 } := by
  obtain ⟨r0, h1⟩ := h.db.ents
  have hbt : ButL [q.g] w (w.setCell ⟨q.g, 2, none⟩ (.int .i64 (d.b + 1))) := .setCell _ _ _ _ (by simp)
  refine ⟨⟨h.db.mem.frame hbt (fun k hk hm => ?_), h.db.cel.setCell 2 _, ⟨r0, h1.but hbt (by rw [List.mem_singleton]; exact Ne.symm h.db.ne)⟩, ?_⟩, h.but.trans_sub hbt (fun k hk => h.sub k (by rw [List.mem_singleton] at hk; rw [hk]; simp [Rp.all])), h.g, h.sub⟩
  · rw [List.mem_singleton] at hm
    subst hm
    exact h.db.mem.off h.db.cel (by decide) hk
  · obtain ⟨a, b, c, e, f, g⟩ := h.db.ok
    exact ⟨a, b, c, e, by show 0 ≤ d.b + 1; omega, by show d.b + 1 ≤ 64; omega⟩
end Go.Proofs.YtildhjiddidghaaGreatDoor
namespace Go.Proofs.YtildhjiddidghaaGreatDoor
open Go.RowKit
set_option maxHeartbeats 4000000
set_option maxRecDepth 100000
structure Vp where
  g : Nat
  ge : Nat
  ce : Nat
  M : Value
structure VS (w : World) (v : Vp) (p : Dp) (d : DS) : Prop where
  db : DB w p d
  cel : Cel w v.g 108 [.pointer (some ⟨p.g, 0, none⟩), .pointer (some ⟨p.f.gm, 0, none⟩), .slice (some ⟨v.ge, 0, none⟩) d.m.ns v.ce, v.M]
  ents : ∃ rest, Cel w v.ge 92 (ecs d.E ++ rest)
theorem VS.on {w w' : World} {v : Vp} {p : Dp} {d : DS} (h : VS w v p d) (hb : Below w.heap.size w w') : VS w' v p d :=
  ⟨h.db.on hb, h.cel.on hb, by obtain ⟨r, h1⟩ := h.ents; exact ⟨r, h1.on hb⟩⟩
theorem VS.c0 {w : World} {v : Vp} {p : Dp} {d : DS} (h : VS w v p d) : w.cell? ⟨v.g, 0, none⟩ = some (.pointer (some ⟨p.g, 0, none⟩)) := h.cel.cell 0
theorem VS.c1 {w : World} {v : Vp} {p : Dp} {d : DS} (h : VS w v p d) : w.cell? ⟨v.g, 1, none⟩ = some (.pointer (some ⟨p.f.gm, 0, none⟩)) := h.cel.cell 1
theorem VS.c2 {w : World} {v : Vp} {p : Dp} {d : DS} (h : VS w v p d) : w.cell? ⟨v.g, 2, none⟩ = some (.slice (some ⟨v.ge, 0, none⟩) d.m.ns v.ce) := h.cel.cell 2
theorem VS.c3 {w : World} {v : Vp} {p : Dp} {d : DS} (h : VS w v p d) : w.cell? ⟨v.g, 3, none⟩ = some v.M := h.cel.cell 3
theorem VS.e0 {w : World} {v : Vp} {p : Dp} {d : DS} (h : VS w v p d) (k j : Nat) (hk : k < d.m.ns) (hj : j < 5) : w.cell? ⟨v.ge, k * 5 + j, none⟩ = (d.at k).cs[j]? := by
  obtain ⟨r, h1⟩ := h.ents
  have hl : k < d.E.length := by rw [h.db.ok.len]; exact hk
  rw [h1.cell, List.getElem?_append_left (by rw [ecs_len]; omega), ecs_at d.E k j hl hj]
  rfl
theorem VS.row {w : World} {v : Vp} {p : Dp} {d : DS} (h : VS w v p d) (k : Nat) (hk : k < d.m.ns) : w.cell? ⟨v.ge, k * 5, none⟩ = some (.int .i64 (d.at k).t) ∧ w.cell? ⟨v.ge, k * 5 + 1, none⟩ = some (.int .i64 (d.at k).o) ∧ w.cell? ⟨v.ge, k * 5 + 2, none⟩ = some (.int .i64 (d.at k).r) ∧ w.cell? ⟨v.ge, k * 5 + 3, none⟩ = some (.int .i64 (d.at k).s) ∧ w.cell? ⟨v.ge, k * 5 + 4, none⟩ = some (.bool (d.at k).e) :=
  ⟨h.e0 k 0 hk (by decide), h.e0 k 1 hk (by decide), h.e0 k 2 hk (by decide), h.e0 k 3 hk (by decide), h.e0 k 4 hk (by decide)⟩
theorem VS.rng {w : World} {v : Vp} {p : Dp} {d : DS} (h : VS w v p d) (k : Nat) (hk : k < d.m.ns) : w.rangeAt v.ge (k * 5) (d.at k).cs := fun j u hu => by
  have hj : j < 5 := by
    rcases Nat.lt_or_ge j 5 with h' | h'
    · exact h'
    · rw [List.getElem?_eq_none (by simpa [En.cs] using h')] at hu; cases hu
  rw [h.e0 k j hk hj]; exact hu
theorem word_v (w : World) (v : Vp) (p : Dp) (d : DS) (h : VS w v p d) (q off : Int) :
    Calls Tryz.prog 143 #[.pointer (some ⟨v.g, 0, none⟩), .int .i64 q, .int .i64 off] w fun e w' => e = .returned (.int .u32 (d.m.word true q off)) ∧ Below w.heap.size w w' := by
  have HP := hid (peek_any w p.f d.m h.db.mem true q off)
  have x1 := h.c1
  clear h
  simp only [ptr, fr] at HP
  generalize d.m.word true q off = u at *
  go_enter Tryz.func143, Tryz.ntmps143
  go_wp2_with (go_at_call 86; refine HP.out.mono ?_; rintro e w1 ⟨rfl, hb⟩; have HB := hid hb; clear hb)
  go_ret
  exact ⟨rfl, HB.out⟩
def DS.zr (d : DS) (q : Int) (lo hi : Nat) : Bool := (List.range (hi - lo)).all (fun k => d.m.word true q ((lo + k : Nat) : Int) == 0)
theorem DS.zr_no {d : DS} {q : Int} {lo hi k : Nat} (h : lo ≤ k) (h' : k < hi) (hw : d.m.word true q (k : Int) ≠ 0) : d.zr q lo hi = false := by
  cases hz : d.zr q lo hi
  · rfl
  · have := List.all_eq_true.1 hz (k - lo) (by rw [List.mem_range]; omega)
    rw [show lo + (k - lo) = k by omega] at this
    exact absurd (by simpa using this) hw
theorem DS.zr_yes {d : DS} {q : Int} {lo hi : Nat} (h : ∀ k, lo ≤ k → k < hi → d.m.word true q (k : Int) = 0) : d.zr q lo hi = true :=
  List.all_eq_true.2 (fun k hk => by rw [List.mem_range] at hk; simpa using h (lo + k) (by omega) (by omega))
theorem isZero_v (w : World) (v : Vp) (p : Dp) (d : DS) (h : VS w v p d) (q : Int) (lo hi : Nat) (h1 : lo ≤ 1024) (h2 : hi ≤ 1024) :
    Calls Tryz.prog 141 #[.pointer (some ⟨v.g, 0, none⟩), .int .i64 q, .int .i64 (lo : Int), .int .i64 (hi : Int)] w fun e w' => e = .returned (.bool (d.zr q lo hi)) ∧ Below w.heap.size w w' := by
  have HV := hid h
  have HW := hid (fun w h off => word_v w v p d h q off)
  have H1 := hid (And.intro h1 h2)
  have HY : Hid ((∀ k, lo ≤ k → k < hi → d.m.word true q (k : Int) = 0) → d.zr q lo hi = true) := hid DS.zr_yes
  have HN := hid (fun k a b c => DS.zr_no (d := d) (q := q) (lo := lo) (hi := hi) (k := k) a b c)
  clear h h1 h2
  generalize d.zr q lo hi = z at *
  go_enter Tryz.func141, Tryz.ntmps141
  go_wp2_with fail
  go_loopw [9] (fun i wr => ∃ j : Nat, lo ≤ j ∧ i = .int .i64 (j : Int) ∧ Hid (Below w.heap.size w wr ∧ (j ≤ hi ∨ j = lo) ∧ ∀ k, lo ≤ k → k < j → d.m.word true q (k : Int) = 0)) (fun i _ => hi - (intOf i).toNat)
  case atStart => exact ⟨lo, Nat.le_refl _, rfl, hid ⟨Below.refl _ _, .inr rfl, by intro k h h'; omega⟩⟩
  case round =>
    obtain ⟨j, hj, rfl, HQ⟩ := hrel
    by_cases hlt : j < hi
    · have q1 : (j : Int) < (hi : Int) := by omega
      have hh := H1.out
      have j4 : (j : Int) ≤ 1024 := by omega
      have HWj := hid (HW.out _ (HV.out.on HQ.out.1) (j : Int))
      have HJ := hid (And.intro hj hlt)
      clear hlt hj hh
      generalize hu : d.m.word true q (j : Int) = u at *
      have HU := hid hu
      clear hu
      by_cases hz : u = 0
      · subst hz
        go_wp2_with (go_at_call 143; refine HWj.out.mono ?_; rintro e w1 ⟨rfl, hb⟩; have HB := hid (below_on HQ.out.1 hb); clear hb)
        go_roundw
        case measure => have := HJ.out; simp [intOf] <;> omega
        case rel => exact ⟨j + 1, by have := HJ.out; omega, by simp, hid ⟨HB.out, .inl (by have := HJ.out; omega), fun k a b => by
          by_cases e : k = j
          · rw [e]; exact HU.out
          · exact HQ.out.2.2 k a (by omega)⟩⟩
      · have hz' : (u != 0) = true := by simpa using hz
        have HF := hid (HN.out j HJ.out.1 HJ.out.2 (by rw [HU.out]; exact hz))
        clear hz
        go_wp2_with (go_at_call 143; refine HWj.out.mono ?_; rintro e w1 ⟨rfl, hb⟩; have HB := hid (below_on HQ.out.1 hb); clear hb)
        go_ret
        rw [HF.out]
        exact ⟨rfl, HB.out⟩
    · have q1 : ¬ ((j : Int) < (hi : Int)) := by omega
      have HF := hid (HY.out (fun k a b => HQ.out.2.2 k a (by omega)))
      clear hlt hj
      go_wp2_with fail
      go_ret
      rw [HF.out]
      exact ⟨rfl, HQ.out.1⟩
theorem isBlank_v (w : World) (v : Vp) (p : Dp) (d : DS) (h : VS w v p d) (q : Int) :
    Calls Tryz.prog 95 #[.pointer (some ⟨v.g, 0, none⟩), .int .i64 q] w fun e w' => e = .returned (.bool (d.zr q 0 1024)) ∧ Below w.heap.size w w' := by
  have HZ := hid (isZero_v w v p d h q 0 1024 (by decide) (by decide))
  clear h
  generalize d.zr q 0 1024 = z at *
  go_enter Tryz.func95, Tryz.ntmps95
  go_wp2_with (go_at_call 141; refine HZ.out.mono ?_; rintro e w1 ⟨rfl, hb⟩; have HB := hid hb; clear hb)
  go_ret
  exact ⟨rfl, HB.out⟩
def DS.isOf (d : DS) (k : Nat) (t o : Int) : Bool := decide (k < d.m.ns) && (((d.at k).t == t) && ((d.at k).o == o))
theorem isOf_v (w : World) (v : Vp) (p : Dp) (d : DS) (h : VS w v p d) (k : Nat) (t o : Int) :
    Calls Tryz.prog 139 #[.pointer (some ⟨v.g, 0, none⟩), .int .i64 (k : Int), .int .i64 t, .int .i64 o] w fun e w' => e = .returned (.bool (d.isOf k t o)) ∧ w = w' := by
  have x2 := h.c2
  unfold DS.isOf
  by_cases hk : k < d.m.ns
  · obtain ⟨y0, y1, y2, y3, y4⟩ := h.row k hk
    have q1 : (k : Int) < (d.m.ns : Int) := by omega
    rw [decide_eq_true hk, Bool.true_and]
    clear h hk y2 y3 y4
    generalize d.m.ns = n at *
    generalize (d.at k).t = a at *
    generalize (d.at k).o = b at *
    cases ha : (a == t)
    · go_enter Tryz.func139, Tryz.ntmps139
      go_wp2_with fail
      go_ret
      exact ⟨rfl, rfl⟩
    · go_enter Tryz.func139, Tryz.ntmps139
      go_wp2_with fail
      go_ret
      exact ⟨by simp, rfl⟩
  · have q1 : ¬ ((k : Int) < (d.m.ns : Int)) := by omega
    rw [decide_eq_false hk, Bool.false_and]
    clear h hk
    generalize d.m.ns = n at *
    go_enter Tryz.func139, Tryz.ntmps139
    go_wp2_with fail
    go_ret
    exact ⟨rfl, rfl⟩
end Go.Proofs.YtildhjiddidghaaGreatDoor
namespace Go.Proofs.YtildhjiddidghaaGreatDoor
open Go.RowKit
set_option maxHeartbeats 4000000
set_option maxRecDepth 100000
theorem VS.frame {w w' : World} {v : Vp} {p : Dp} {d : DS} {G : List Nat} (h : VS w v p d) (hb : ButL G w w') (hd : ∀ k ∈ [v.g, v.ge], k ∉ G) (hp : ∀ k ∈ p.all, k ∉ G) : VS w' v p d :=
  ⟨h.db.frame hb hp, h.cel.but hb (hd _ (by simp)), by obtain ⟨r, h1⟩ := h.ents; exact ⟨r, h1.but hb (hd _ (by simp))⟩⟩
def DS.ownr (d : DS) (k : Nat) : En := d.at (d.at k).o.toNat
theorem DS.Ok.onat {d : DS} (h : d.Ok) {k : Nat} (hk : k < d.m.ns) : (d.at k).o = (((d.at k).o.toNat : Nat) : Int) ∧ (d.at k).o.toNat < d.m.ns := by
  have h1 := ((En.ok_iff _).1 (h.ok k hk)).o0
  have h2 := h.own k hk
  omega
theorem owner_v (w : World) (v : Vp) (p : Dp) (d : DS) (h : VS w v p d) (k : Nat) (hk : k < d.m.ns) :
    Calls Tryz.prog 142 #[.pointer (some ⟨v.g, 0, none⟩), .int .i64 (k : Int)] w fun e w' => e = .returned (.agg (d.ownr k).cs.toArray) ∧ Below w.heap.size w w' := by
  obtain ⟨ho, hm⟩ := h.db.ok.onat hk
  have HX := hid (h.on (below_one w (.cells #[.int .i64 0, .int .i64 0, .int .i64 0, .int .i64 0, .bool false] 92)))
  have HC : Hid (Cel (w.alloc (.cells #[.int .i64 0, .int .i64 0, .int .i64 0, .int .i64 0, .bool false] 92)) w.heap.size 92 En.zero.cs) := hid (Cel.new w 92 En.zero.cs)
  have HB := hid (below_one w (.cells #[.int .i64 0, .int .i64 0, .int .i64 0, .int .i64 0, .bool false] 92))
  have HL : Hid (∀ j, j ∈ [v.g, v.ge] → j < w.heap.size) := hid (fun j hj => by
    simp only [List.mem_cons, List.not_mem_nil, or_false] at hj
    rcases hj with rfl | rfl
    · exact h.cel.lt
    · obtain ⟨_, h1⟩ := h.ents; exact h1.lt)
  have HDL : Hid (∀ j ∈ p.all, j < w.heap.size) := hid h.db.lt
  unfold DS.ownr
  have HA : Hid (∀ w, VS w v p d → w.cell? ⟨v.g, 2, none⟩ = some (.slice (some ⟨v.ge, 0, none⟩) d.m.ns v.ce) ∧ w.cell? ⟨v.ge, k * 5 + 1, none⟩ = some (.int .i64 (((d.at k).o.toNat : Nat) : Int)) ∧ w.rangeAt v.ge ((d.at k).o.toNat * 5) (d.at (d.at k).o.toNat).cs) := hid (fun w hw => ⟨hw.c2, by rw [← ho]; exact (hw.row k hk).2.1, hw.rng _ hm⟩)
  have q1 : (k : Int) < (d.m.ns : Int) := by omega
  have q2 : (((d.at k).o.toNat : Nat) : Int) < (d.m.ns : Int) := by omega
  clear h ho hm hk
  generalize (d.at k).o.toNat = m at *
  generalize d.at m = X at *
  go_enter Tryz.func142, Tryz.ntmps142
  go_upto_region 1 with fail
  generalize World.alloc _ _ = x0 at *
  generalize hg : w.heap.size = g4 at HC HL HDL ⊢
  have HG := hid hg
  clear hg
  generalize d.m.ns = n at *
  have HX0 := hid (HX.out.on (Below.refl _ _).drew)
  have HC0 := hid (HC.out.on (Below.refl _ _).drew)
  have HB0 := hid (below_on HB.out (Below.refl _ _).drew)
  clear HX HC HB
  refine wp_region_held_drew (S := fun w => VS w v p d) (by kernel_rfl) HX0.out (fun hHeld => ?_)
  generalize World.drew _ = x1 at *
  refine tk 0 (some 5) (.pointer (some ⟨v.g, 0, none⟩)) ?_
  simp only [Act.put, tqA, tqZ, tqS]
  refine tk 1 (some 6) (.pointer (some ⟨v.g, 0, none⟩)) ?_
  simp only [Act.put, tqA, tqZ, tqS]
  refine tk 2 (some 7) (.pointer (some ⟨v.g, 2, none⟩)) ?_
  simp only [Act.put, tqA, tqZ, tqS]
  refine tk 3 (some 8) (.slice (some ⟨v.ge, 0, none⟩) n v.ce) ?_ (hy := Or.inl ⟨by rfl, by intro w hSw; have hc := (HA.out w hSw).1; go_simp⟩)
  simp only [Act.put, tqA, tqZ, tqS]
  refine tk 4 (some 9) (.pointer (some ⟨v.g, 0, none⟩)) ?_
  simp only [Act.put, tqA, tqZ, tqS]
  refine tk 5 (some 10) (.pointer (some ⟨v.g, 0, none⟩)) ?_
  simp only [Act.put, tqA, tqZ, tqS]
  refine tk 6 (some 11) (.pointer (some ⟨v.g, 2, none⟩)) ?_
  simp only [Act.put, tqA, tqZ, tqS]
  refine tk 7 (some 12) (.slice (some ⟨v.ge, 0, none⟩) n v.ce) ?_ (hy := Or.inl ⟨by rfl, by intro w hSw; have hc := (HA.out w hSw).1; go_simp⟩)
  simp only [Act.put, tqA, tqZ, tqS]
  refine tk 8 (some 13) (.int .i64 (k : Int)) ?_
  simp only [Act.put, tqA, tqZ, tqS]
  refine tk 9 (some 14) (.pointer (some ⟨v.ge, k * 5, none⟩)) ?_
  simp only [Act.put, tqA, tqZ, tqS]
  refine tk 10 (some 15) (.pointer (some ⟨v.ge, k * 5 + 1, none⟩)) ?_
  simp only [Act.put, tqA, tqZ, tqS]
  refine tk 11 (some 16) (.int .i64 (m : Int)) ?_ (hy := Or.inl ⟨by rfl, by intro w hSw; have hc := (HA.out w hSw).2.1; go_simp⟩)
  simp only [Act.put, tqA, tqZ, tqS]
  refine tk 12 (some 17) (.pointer (some ⟨v.ge, m * 5, none⟩)) ?_
  simp only [Act.put, tqA, tqZ, tqS]
  refine tk 13 (some 18) (.agg X.cs.toArray) ?_ (hy := yieldsIf_load_mid (by rfl) _ _ rfl _ _ rfl _ _ (fun w hSw => (HA.out w hSw).2.2) underE rfl (by rw [sizeE]; rfl))
  simp only [Act.put, tqA, tqZ, tqS]
  refine wpAnyH_ready (rs := [14]) (by kernel_rfl) (by simp) (AllReadyH.cons (o := ⟨none, .store 92 (.tmp 4) (.tmp 18), 0, "state.go:61", #[⟨13, .data⟩, ⟨0, .phase⟩, ⟨1, .phase⟩, ⟨2, .phase⟩, ⟨3, .phase⟩, ⟨4, .phase⟩, ⟨5, .phase⟩, ⟨6, .phase⟩, ⟨7, .phase⟩, ⟨8, .phase⟩, ⟨9, .phase⟩, ⟨10, .phase⟩, ⟨11, .phase⟩, ⟨12, .phase⟩, ⟨13, .phase⟩], none⟩) rfl (fun KQ hK => ?_) AllReadyH.nil)
  rw [if_pos (by rfl)]
  refine wp_store_st 92 _ _ rfl g4 X.cs rfl rfl HC0.out sizeE rfl rfl ?_
  intro w2 hc hb hs
  have HE := hid (And.intro hc (HB0.out.trans (hb.below (B := w.heap.size) (by have := HG.out; simp; omega) HB0.out.size)))
  have HX1 := hid (HX0.out.frame hb (fun j hj hm => by rw [List.mem_singleton] at hm; have := HL.out j hj; omega) (fun j hj hm => by rw [List.mem_singleton] at hm; have a := HX0.out.db.lt j hj; have b := HDL.out j hj; omega))
  clear hc hb hs
  refine hK.out _ _ HX1.out (fun hHeld => ?_)
  clear hK KQ
  try simp only [Act.put]
  refine wpAnyH_done (by kernel_rfl) ?_ _
  go_wp2_with fail
  exact ret_st rfl rfl g4 _ rfl HE.out.1 underE rfl (by rw [sizeE]; rfl) ⟨rfl, HE.out.2⟩
theorem fld0 (t o r s : Int) (e : Bool) (w : World) : (Instr.field 92 (.agg #[.int .i64 t, .int .i64 o, .int .i64 r, .int .i64 s, .bool e]) 0).run Tryz.prog w = .ok (.int .i64 t) w := by kernel_rfl
theorem fld3 (t o r s : Int) (e : Bool) (w : World) : (Instr.field 92 (.agg #[.int .i64 t, .int .i64 o, .int .i64 r, .int .i64 s, .bool e]) 3).run Tryz.prog w = .ok (.int .i64 s) w := by kernel_rfl
def DS.hasSp (d : DS) (k : Nat) : Bool := (d.ownr k).t == 1
def DS.alive (d : DS) (k : Nat) : Bool := (d.hasSp k) && ((d.ownr k).s != 3)
theorem hasSpace_v (w : World) (v : Vp) (p : Dp) (d : DS) (h : VS w v p d) (k : Nat) (hk : k < d.m.ns) :
    Calls Tryz.prog 97 #[.pointer (some ⟨v.g, 0, none⟩), .int .i64 (k : Int)] w fun e w' => e = .returned (.bool (d.hasSp k)) ∧ Below w.heap.size w w' := by
  have HO := hid (owner_v w v p d h k hk)
  unfold DS.hasSp
  clear h hk
  generalize d.ownr k = X at *
  simp only [En.cs] at HO
  have f0 := fld0 X.t X.o X.r X.s X.e
  go_enter Tryz.func97, Tryz.ntmps97
  go_wp2_with (go_at_call 142; refine HO.out.mono ?_; rintro e w1 ⟨rfl, hb⟩; have HB := hid hb; clear hb)
  go_ret
  exact ⟨rfl, HB.out⟩
theorem isAlive_v (w : World) (v : Vp) (p : Dp) (d : DS) (h : VS w v p d) (k : Nat) (hk : k < d.m.ns) :
    Calls Tryz.prog 147 #[.pointer (some ⟨v.g, 0, none⟩), .int .i64 (k : Int)] w fun e w' => e = .returned (.bool (d.alive k)) ∧ Below w.heap.size w w' := by
  have HO := hid (fun w h => owner_v w v p d h k hk)
  have HH := hid (hasSpace_v w v p d h k hk)
  have HV := hid h
  unfold DS.alive
  clear h hk
  generalize d.ownr k = X at *
  simp only [En.cs] at HO
  cases hz : d.hasSp k
  · rw [hz] at HH
    clear hz
    go_enter Tryz.func147, Tryz.ntmps147
    go_wp2_with (go_at_call 97; refine HH.out.mono ?_; rintro e w1 ⟨rfl, hb⟩; have HB := hid hb; clear hb)
    go_ret
    exact ⟨rfl, HB.out⟩
  · rw [hz] at HH
    clear hz
    have f3 := fld3 X.t X.o X.r X.s X.e
    go_enter Tryz.func147, Tryz.ntmps147
    go_wp2_with (first | (go_at_call 97; refine HH.out.mono ?_; rintro e w1 ⟨rfl, hb⟩; have HB := hid hb; clear hb) | (go_at_call 142; refine (HO.out _ (HV.out.on HB.out)).mono ?_; rintro e w2 ⟨rfl, hb⟩; have HB2 := hid (below_on HB.out hb); clear hb))
    go_ret
    exact ⟨by simp, HB2.out⟩
theorem cl1_v (w : World) (v : Vp) (p : Dp) (d : DS) (h : VS w v p d) (g1 : Nat) (hg : Cel w g1 102 [.pointer (some ⟨v.g, 0, none⟩)]) (k : Nat) (hk : k < d.m.ns) :
    Calls Tryz.prog 94 #[.int .i64 (k : Int), .pointer (some ⟨g1, 0, none⟩)] w fun e w' => e = .returned (.bool ((d.at k).o == (k : Int))) ∧ Below w.heap.size w w' := by
  have c0 : w.cell? ⟨g1, 0, none⟩ = some (.pointer (some ⟨v.g, 0, none⟩)) := hg.cell 0
  have c2 := h.c2
  obtain ⟨y0, y1, y2, y3, y4⟩ := h.row k hk
  have q1 : (k : Int) < (d.m.ns : Int) := by omega
  clear h hk hg
  generalize d.m.ns = n at *
  generalize d.at k = X at *
  go_enter Tryz.func94, Tryz.ntmps94
  go_wp2_with fail
  go_ret
  exact ⟨rfl, Below.refl _ _⟩
theorem cl2_v (w : World) (v : Vp) (p : Dp) (d : DS) (h : VS w v p d) (g1 : Nat) (hg : Cel w g1 102 [.pointer (some ⟨v.g, 0, none⟩)]) (k : Nat) (hk : k < d.m.ns) :
    Calls Tryz.prog 96 #[.int .i64 (k : Int), .pointer (some ⟨g1, 0, none⟩)] w fun e w' => e = .returned (.bool ((d.at k).t == 0 || ((d.at k).t == 1 || d.hasSp k))) ∧ Below w.heap.size w w' := by
  have c0 : w.cell? ⟨g1, 0, none⟩ = some (.pointer (some ⟨v.g, 0, none⟩)) := hg.cell 0
  have c2 := h.c2
  obtain ⟨y0, y1, y2, y3, y4⟩ := h.row k hk
  have q1 : (k : Int) < (d.m.ns : Int) := by omega
  have HH := hid (hasSpace_v w v p d h k hk)
  clear h hk hg
  generalize d.hasSp k = z at *
  generalize d.m.ns = n at *
  generalize (d.at k).t = t at *
  cases h0 : (t == 0)
  · cases h1 : (t == 1)
    · go_enter Tryz.func96, Tryz.ntmps96
      go_wp2_with (go_at_call 97; refine HH.out.mono ?_; rintro e w1 ⟨rfl, hb⟩; have HB := hid hb; clear hb)
      go_ret
      exact ⟨by simp, HB.out⟩
    · go_enter Tryz.func96, Tryz.ntmps96
      go_wp2_with fail
      go_ret
      exact ⟨by simp, Below.refl _ _⟩
  · go_enter Tryz.func96, Tryz.ntmps96
    go_wp2_with fail
    go_ret
    exact ⟨by simp, Below.refl _ _⟩
end Go.Proofs.YtildhjiddidghaaGreatDoor
namespace Go.Proofs.YtildhjiddidghaaGreatDoor
open Go.RowKit
set_option maxHeartbeats 4000000
set_option maxRecDepth 100000
theorem cl3_v (w : World) (v : Vp) (p : Dp) (d : DS) (h : VS w v p d) (g1 : Nat) (hg : Cel w g1 102 [.pointer (some ⟨v.g, 0, none⟩)]) (k : Nat) (hk : k < d.m.ns) :
    Calls Tryz.prog 98 #[.int .i64 (k : Int), .pointer (some ⟨g1, 0, none⟩)] w fun e w' => e = .returned (.bool ((d.at k).r == ((d.owned (k : Int)).length : Int))) ∧ Below w.heap.size w w' := by
  have HO := hid (fun w (hw : VS w v p d) => owned_any w p d hw.db (k : Int))
  have HA : Hid (∀ w, VS w v p d ∧ Cel w g1 102 [.pointer (some ⟨v.g, 0, none⟩)] → w.cell? ⟨g1, 0, none⟩ = some (.pointer (some ⟨v.g, 0, none⟩)) ∧ w.cell? ⟨v.g, 2, none⟩ = some (.slice (some ⟨v.ge, 0, none⟩) d.m.ns v.ce) ∧ w.cell? ⟨v.ge, k * 5 + 2, none⟩ = some (.int .i64 (d.at k).r) ∧ w.cell? ⟨v.g, 0, none⟩ = some (.pointer (some ⟨p.g, 0, none⟩))) := hid (fun w hw => ⟨hw.2.cell 0, hw.1.c2, (hw.1.row k hk).2.2.1, hw.1.c0⟩)
  have HX := hid (And.intro (h.on (Below.refl _ _).drew) (hg.on (Below.refl _ _).drew))
  have HB : Hid (Below w.heap.size w w.drew) := hid (Below.refl _ _).drew
  have q1 : (k : Int) < (d.m.ns : Int) := by omega
  clear h hk hg
  generalize d.owned (k : Int) = A at *
  generalize (d.at k).r = r at *
  generalize d.m.ns = n at *
  simp only [ptr] at *
  go_enter Tryz.func98, Tryz.ntmps98
  go_upto_region 1 with fail
  refine wp_region_held_drew (S := fun w => VS w v p d ∧ Cel w g1 102 [.pointer (some ⟨v.g, 0, none⟩)]) (by kernel_rfl) HX.out (fun hHeld => ?_)
  generalize World.drew _ = x1 at *
  refine tk 0 (some 4) (.pointer (some ⟨v.g, 0, none⟩)) ?_ (hy := Or.inl ⟨by rfl, by intro w hSw; have hc := (HA.out w hSw).1; go_simp⟩)
  simp only [Act.put, tqA, tqZ, tqS]
  refine tk 1 (some 5) (.pointer (some ⟨v.g, 0, none⟩)) ?_
  simp only [Act.put, tqA, tqZ, tqS]
  refine tk 2 (some 6) (.pointer (some ⟨v.g, 2, none⟩)) ?_
  simp only [Act.put, tqA, tqZ, tqS]
  refine tk 3 (some 7) (.slice (some ⟨v.ge, 0, none⟩) n v.ce) ?_ (hy := Or.inl ⟨by rfl, by intro w hSw; have hc := (HA.out w hSw).2.1; go_simp⟩)
  simp only [Act.put, tqA, tqZ, tqS]
  refine tk 4 (some 8) (.int .i64 (k : Int)) ?_
  simp only [Act.put, tqA, tqZ, tqS]
  refine tk 5 (some 9) (.pointer (some ⟨v.ge, k * 5, none⟩)) ?_
  simp only [Act.put, tqA, tqZ, tqS]
  refine tk 6 (some 10) (.pointer (some ⟨v.ge, k * 5 + 2, none⟩)) ?_
  simp only [Act.put, tqA, tqZ, tqS]
  refine tk 7 (some 11) (.int .i64 r) ?_ (hy := Or.inl ⟨by rfl, by intro w hSw; have hc := (HA.out w hSw).2.2.1; go_simp⟩)
  simp only [Act.put, tqA, tqZ, tqS]
  refine tk 8 (some 12) (.pointer (some ⟨v.g, 0, none⟩)) ?_ (hy := Or.inl ⟨by rfl, by intro w hSw; have hc := (HA.out w hSw).1; go_simp⟩)
  simp only [Act.put, tqA, tqZ, tqS]
  refine tk 9 (some 13) (.pointer (some ⟨v.g, 0, none⟩)) ?_
  simp only [Act.put, tqA, tqZ, tqS]
  refine tk 10 (some 14) (.pointer (some ⟨v.g, 0, none⟩)) ?_
  simp only [Act.put, tqA, tqZ, tqS]
  refine tk 11 (some 15) (.pointer (some ⟨p.g, 0, none⟩)) ?_ (hy := Or.inl ⟨by rfl, by intro w hSw; have hc := (HA.out w hSw).2.2.2; go_simp⟩)
  simp only [Act.put, tqA, tqZ, tqS]
  refine tk 12 (some 16) (.int .i64 (k : Int)) ?_
  simp only [Act.put, tqA, tqZ, tqS]
  refine wpAnyH_ready (rs := [13]) (by kernel_rfl) (by simp) (AllReadyH.cons (o := ⟨some 17, .call { callee := .value (.func 51), args := #[.tmp 15, .tmp 16], argTypes := #[31, 3] }, 96, "clauses.go:18", #[⟨11, .data⟩, ⟨12, .data⟩], none⟩) rfl (fun KQ hK => ?_) AllReadyH.nil)
  go_simp
  refine (HO.out _ HX.out.1).mono ?_
  rintro e w1 ⟨v1, rfl, ho, hb⟩
  obtain ⟨ao, ca, rfl⟩ : ∃ ao c, v1 = .slice ao A.length c := by
    rcases ho.2 with ⟨hv, h0⟩ | ⟨g, cap, cur, hv, _⟩
    · exact ⟨none, 0, by rw [hv, h0]⟩
    · exact ⟨_, cap, hv⟩
  have HX1 := hid (And.intro (HX.out.1.on hb) (HX.out.2.on hb))
  have HB1 := hid (below_on HB.out hb)
  clear ho hb HX HB
  go_wp2_with fail
  refine hK.out _ _ HX1.out (fun hHeld => ?_)
  clear hK KQ
  try simp only [Act.put, tqA, tqZ, tqS]
  refine tk 14 (some 18) (.int .i64 (A.length : Int)) ?_
  simp only [Act.put, tqA, tqZ, tqS]
  refine tk 15 (some 19) (.bool (r == (A.length : Int))) ?_
  simp only [Act.put, tqA, tqZ, tqS]
  refine wpAnyH_ready (rs := [16]) (by kernel_rfl) (by simp) (AllReadyH.cons (o := ⟨some 3, .assign (.tmp 19), 4, "clauses.go:18", #[⟨15, .data⟩, ⟨13, .chain⟩, ⟨0, .phase⟩, ⟨1, .phase⟩, ⟨2, .phase⟩, ⟨3, .phase⟩, ⟨4, .phase⟩, ⟨5, .phase⟩, ⟨6, .phase⟩, ⟨7, .phase⟩, ⟨8, .phase⟩, ⟨9, .phase⟩, ⟨10, .phase⟩, ⟨11, .phase⟩, ⟨12, .phase⟩, ⟨13, .phase⟩, ⟨14, .phase⟩, ⟨15, .phase⟩], none⟩) rfl (fun KQ hK => ?_) AllReadyH.nil)
  go_simp
  refine hK.out _ _ HX1.out (fun hHeld => ?_)
  clear hK KQ
  try simp only [Act.put, tqA, tqZ, tqS]
  refine wpAnyH_done (by kernel_rfl) ?_ _
  go_wp2_with fail
  go_ret
  exact ⟨rfl, HB1.out⟩
structure MPd (w : World) (M : Value) (C : List Nat) : Prop where
  at_ : ∃ gm, M = .slice (some ⟨gm, 0, none⟩) C.length C.length ∧ Cel w gm 3 (ints C)
theorem MPd.on {w w' : World} {M : Value} {C : List Nat} (h : MPd w M C) (hb : Below w.heap.size w w') : MPd w' M C := by
  obtain ⟨g, e, hc⟩ := h.at_
  exact ⟨g, e, hc.on hb⟩
theorem cl4_v (w : World) (v : Vp) (p : Dp) (d : DS) (h : VS w v p d) (C : List Nat) (hC : MPd w v.M C) (hl : C.length = d.m.ns) (g1 : Nat) (hg : Cel w g1 102 [.pointer (some ⟨v.g, 0, none⟩)]) (k : Nat) (hk : k < d.m.ns) :
    Calls Tryz.prog 105 #[.int .i64 (k : Int), .pointer (some ⟨g1, 0, none⟩)] w fun e w' => e = .returned (.bool (((C.getD k 0 : Nat) : Int) == 1)) ∧ Below w.heap.size w w' := by
  have c0 : w.cell? ⟨g1, 0, none⟩ = some (.pointer (some ⟨v.g, 0, none⟩)) := hg.cell 0
  have c3 := h.c3
  obtain ⟨gm, e, hc⟩ := hC.at_
  rw [e, hl] at c3
  have c4 : w.cell? ⟨gm, k, none⟩ = some (.int .i64 ((C.getD k 0 : Nat) : Int)) := by
    rw [hc.cell, ints, List.getElem?_map, List.getElem?_eq_getElem (by omega), List.getD_eq_getElem?_getD, List.getElem?_eq_getElem (by omega)]
    rfl
  have q1 : (k : Int) < (d.m.ns : Int) := by omega
  clear h hk hg hC hc e hl
  generalize C.getD k 0 = a at *
  generalize d.m.ns = n at *
  go_enter Tryz.func105, Tryz.ntmps105
  go_wp2_with fail
  go_ret
  exact ⟨rfl, Below.refl _ _⟩
def DS.wds (d : DS) (q : Int) (lo n : Nat) : List Int := (List.range n).map (fun k => d.m.word true q ((lo + k : Nat) : Int))
theorem under40 : Tryz.prog.underlying 40 = some (.slice 22) := by kernel_rfl
theorem info22 : (Tryz.prog.info? 22).map (fun i => (i.zero, i.size, i.bytes)) = some (some (.int .u32 0), 1, 4) := by kernel_rfl
theorem wds_set (d : DS) (q : Int) (lo n j : Nat) (hj : j < n) : (u32s (d.wds q lo j) ++ List.replicate (n - j) (Value.int .u32 0)).set j (Value.int .u32 (d.m.word true q ((lo + j : Nat) : Int))) = u32s (d.wds q lo (j + 1)) ++ List.replicate (n - (j + 1)) (.int .u32 0) := by
  have hl : (u32s (d.wds q lo j)).length = j := by simp [u32s, DS.wds]
  obtain ⟨m, hm⟩ : ∃ m, n - j = m + 1 := ⟨n - j - 1, by omega⟩
  rw [hm, show n - (j + 1) = m by omega, List.set_append_right _ _ (by omega), hl, Nat.sub_self, List.replicate_succ, List.set_cons_zero]
  simp [u32s, DS.wds, List.range_succ]
theorem cell_u32 {w : World} {g : Nat} {d : DS} {q : Int} {lo n j : Nat} (h : Cel w g 22 (u32s (d.wds q lo j) ++ List.replicate (n - j) (.int .u32 0))) (hj : j < n) : ∃ y, w.cell? ⟨g, j, none⟩ = some (.int .u32 y) := by
  have hl : (u32s (d.wds q lo j)).length = j := by simp [u32s, DS.wds]
  refine ⟨0, ?_⟩
  rw [h.cell, List.getElem?_append_right (by omega), hl, Nat.sub_self]
  obtain ⟨m, hm⟩ : ∃ m, n - j = m + 1 := ⟨n - j - 1, by omega⟩
  rw [hm]
  rfl
theorem words_v (w : World) (v : Vp) (p : Dp) (d : DS) (h : VS w v p d) (q : Int) (lo n : Nat) (h1 : lo + n ≤ 1024) :
    Calls Tryz.prog 137 #[.pointer (some ⟨v.g, 0, none⟩), .int .i64 q, .int .i64 (lo : Int), .int .i64 ((lo + n : Nat) : Int)] w fun e w' => ∃ g, e = .returned (.slice (some ⟨g, 0, none⟩) n n) ∧ Cel w' g 22 (u32s (d.wds q lo n)) ∧ w.heap.size ≤ g ∧ Below w.heap.size w w' := by
  have HV := hid h
  have HW := hid (fun w h off => word_v w v p d h q off)
  have HS := hid (fun j hj => wds_set d q lo n j hj)
  have H1 := hid h1
  have k1 : IntKind.wrap .i64 (((lo + n : Nat) : Int) - (lo : Int)) = (n : Int) := by rw [wr64 _ (by omega) (by omega)]; omega
  have HN : Hid (u32s (d.wds q lo 0) ++ List.replicate (n - 0) (.int .u32 0) = List.replicate n (.int .u32 0)) := hid (by simp [DS.wds, u32s])
  have HN2 : Hid (u32s (d.wds q lo n) ++ List.replicate (n - n) (.int .u32 0) = u32s (d.wds q lo n)) := hid (by simp)
  clear h h1
  generalize ((lo + n : Nat) : Int) = hi at *
  go_enter Tryz.func137, Tryz.ntmps137
  go_upto_region 3 with (at_make; refine wpList_make_cel rfl _ _ 40 22 rfl (.int .u32 0) 4 under40 info22 rfl n _ _ rfl rfl rfl rfl (by have := H1.out; omega) (by have := H1.out; omega) ?_; intro w1 hc hb hs; have C1 := hid (And.intro hc hb); clear hc hb hs)
  generalize hg : w.heap.size = g at *
  have HG := hid hg
  clear hg
  go_loopw [17] (fun i wr => ∃ j : Nat, j ≤ n ∧ i = .int .i64 (j : Int) ∧ Hid (Cel wr g 22 (u32s (d.wds q lo j) ++ List.replicate (n - j) (.int .u32 0)) ∧ Below w.heap.size w wr)) (fun i _ => n - (intOf i).toNat)
  case atStart => exact ⟨0, Nat.zero_le _, rfl, hid ⟨by rw [HN.out]; exact C1.out.1, by rw [HG.out]; exact C1.out.2⟩⟩
  case round =>
    obtain ⟨j, hj, rfl, HQ⟩ := hrel
    clear C1
    by_cases hlt : j < n
    · have q1 : (j : Int) < (n : Int) := by omega
      have hh := H1.out
      have j4 : (j : Int) ≤ 1024 := by omega
      have kw : IntKind.wrap .i64 ((lo : Int) + (j : Int)) = ((lo + j : Nat) : Int) := by rw [wr64 _ (by omega) (by omega)]; omega
      have HWj := hid (HW.out · · ((lo + j : Nat) : Int))
      have HSj := hid (HS.out j hlt)
      have HJ := hid hlt
      clear hlt hj hh
      generalize d.m.word true q ((lo + j : Nat) : Int) = u at *
      generalize ((lo + j : Nat) : Int) = lj at *
      go_upto_region 6 with (go_at_call 143; refine (HWj.out _ (HV.out.on HQ.out.2)).mono ?_; rintro e w2 ⟨rfl, hb⟩; have C2 := hid (And.intro (HQ.out.1.on hb) (below_on HQ.out.2 hb)); have z0 : ∃ y, w2.cell? ⟨g, j, none⟩ = some (.int .u32 y) := (cell_u32 C2.out.1 HJ.out); obtain ⟨y, z0⟩ := z0; have z1 := C2.out.1.free j; clear hb)
      have C3 := hid (And.intro (C2.out.1.setCell j (.int .u32 u)) (C2.out.2.trans ((ButL.setCell w2 g j (.int .u32 u) (by simp : g ∈ [g])).below (B := w.heap.size) (fun k hk => by rw [List.mem_singleton] at hk; have := HG.out; omega) C2.out.2.size)))
      rw [HSj.out] at C3
      clear z0 z1 C2
      go_wp2_with fail
      go_roundw
      case measure => have := HJ.out; simp [intOf] <;> omega
      case rel => exact ⟨j + 1, HJ.out, by simp, hid C3.out⟩
    · have hjn : j = n := by omega
      subst hjn
      clear hlt hj
      go_wp2_with fail
      go_ret
      have hgg := HG.out
      subst hgg
      exact ⟨_, rfl, by rw [← HN2.out]; exact HQ.out.1, Nat.le_refl _, HQ.out.2⟩
end Go.Proofs.YtildhjiddidghaaGreatDoor
