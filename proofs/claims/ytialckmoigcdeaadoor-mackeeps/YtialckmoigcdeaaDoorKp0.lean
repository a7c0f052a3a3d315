/- MacKeeps: what is carried from part to part. -/
import Derived.Test.YtialckmoigcdeaaDoorOwn
import Derived.Test.YtialckmoigcdeaaDoorSfx
import Derived.Deep.DeepCutAuto
namespace Go.Proofs.YtialckmoigcdeaaDoor
open Go.RowKit

/-- Bytes that were answered: none, or in block g. -/
def XG (w : World) (g : Nat) (vo : Option Addr) (L : List Int) : Prop := (vo = none ∧ L = []) ∨ (vo = some ⟨g, 0, none⟩ ∧ ∃ cap, Own w g 5 .u8 cap L)
theorem XG.on {w w' : World} {g : Nat} {vo : Option Addr} {L : List Int} (h : XG w g vo L) (hb : Below w.heap.size w w') : XG w' g vo L := by
  rcases h with h | ⟨h1, cap, h3⟩
  · exact .inl h
  · exact .inr ⟨h1, cap, h3.on hb⟩
theorem XG.but {w w' : World} {g i : Nat} {vo : Option Addr} {L : List Int} (h : XG w g vo L) (hb : But i w w') (hi : g ≠ i) : XG w' g vo L := by
  rcases h with h | ⟨h1, cap, h3⟩
  · exact .inl h
  · exact .inr ⟨h1, cap, h3.but hb hi⟩
theorem XG.at {w : World} {g : Nat} {vo : Option Addr} {L : List Int} (h : XG w g vo L) : At w .u8 vo L := by
  rcases h with ⟨_, h⟩ | ⟨rfl, cap, h3⟩
  · exact .inl h
  · exact h3.at
theorem XG.some {w : World} {g : Nat} {vo : Option Addr} {L : List Int} (h : XG w g vo L) (hn : 0 < L.length) : vo = some ⟨g, 0, none⟩ ∧ ∃ cap, Own w g 5 .u8 cap L := by
  rcases h with ⟨_, h⟩ | h
  · rw [h] at hn; cases hn
  · exact h
theorem XG.cell {w : World} {g : Nat} {vo : Option Addr} {L : List Int} (h : XG w g vo L) (j : Nat) (hj : j < L.length) : w.cell? ⟨g, j, none⟩ = .some (.int .u8 (L.getD j 0)) := by
  obtain ⟨_, cap, h⟩ := h.some (by omega)
  exact h.cell j hj
theorem XG.free {w : World} {g : Nat} {vo : Option Addr} {L : List Int} (h : XG w g vo L) (j : Nat) (hj : j < L.length) : w.frozen? ⟨g, j, none⟩ = false := by
  obtain ⟨_, cap, h⟩ := h.some (by omega)
  exact h.free j
theorem XG.set {w : World} {g : Nat} {vo : Option Addr} {L : List Int} (h : XG w g vo L) (j : Nat) (hj : j < L.length) (u : Int) : XG (w.setCell ⟨g, j, none⟩ (.int .u8 u)) g vo (L.set j u) := by
  obtain ⟨h1, cap, h⟩ := h.some (by omega)
  exact .inr ⟨h1, cap, h.set j u⟩
/-- Bytes that were answered, in a block from B on and below C. -/
def XW (w : World) (B C : Nat) (vo : Option Addr) (L : List Int) : Prop := (vo = none ∧ L = []) ∨ ∃ g cap, vo = some ⟨g, 0, none⟩ ∧ B ≤ g ∧ g < C ∧ Own w g 5 .u8 cap L
theorem XW.on {w w' : World} {B C : Nat} {vo : Option Addr} {L : List Int} (h : XW w B C vo L) (hb : Below w.heap.size w w') : XW w' B C vo L := by
  rcases h with h | ⟨g, cap, h1, h2, h3, h4⟩
  · exact .inl h
  · exact .inr ⟨g, cap, h1, h2, h3, h4.on hb⟩
theorem XW.but {w w' : World} {B C i : Nat} {vo : Option Addr} {L : List Int} (h : XW w B C vo L) (hb : But i w w') (hi : i < B) : XW w' B C vo L := by
  rcases h with h | ⟨g, cap, h1, h2, h3, h4⟩
  · exact .inl h
  · exact .inr ⟨g, cap, h1, h2, h3, h4.but hb (by omega)⟩
theorem XW.at {w : World} {B C : Nat} {vo : Option Addr} {L : List Int} (h : XW w B C vo L) : At w .u8 vo L := by
  rcases h with ⟨_, h⟩ | ⟨g, cap, rfl, _, _, h3⟩
  · exact .inl h
  · exact h3.at
theorem XW.conv {w : World} {B C n c : Nat} {vo : Option Addr} {L : List Int} (h : XW w B C vo L) (hn : L.length = n) : (convert 22 9 (.slice vo n c)).run Tryd.prog w = .ok (.string (strOfNums L)) w := by
  rcases h with ⟨rfl, rfl⟩ | ⟨g, cap, rfl, _, _, h3⟩
  · exact run_convert_bytes_nil w 22 5 Tryd.underlying22 Tryd.underlying5 n c 9 Tryd.underlying9
  · exact conv_own h3 hn
theorem OwnB.toXW {W w : World} {vo : Option Addr} {n : Nat} {L : List Int} (h : OwnB W w vo n L) : XW w W.heap.size w.heap.size vo L := by
  rcases h.2 with ⟨h0, h1⟩ | ⟨g, cur, h1, h2, h3, h4, h5⟩
  · have := h.1
    rw [h0] at this
    exact .inl ⟨h1, List.eq_nil_of_length_eq_zero this⟩
  · exact .inr ⟨g, cur.size, h1, h2, (Array.getElem?_eq_some_iff.1 h3).1, cur, h3, rfl, by rw [h.1]; exact h4, by rw [h.1]; exact h5⟩
/-- The block, whatever there is; D where there is none. -/
theorem XW.toXG {w : World} {B C : Nat} {vo : Option Addr} {L : List Int} (h : XW w B C vo L) (D : Nat) : ∃ g, XG w g vo L ∧ (B ≤ g ∧ g < C ∨ g = D) := by
  rcases h with h | ⟨g, cap, h1, h2, h3, h4⟩
  · exact ⟨D, .inl h, .inr rfl⟩
  · exact ⟨g, .inr ⟨h1, cap, h4⟩, .inl ⟨h2, h3⟩⟩
/-- A row of bytes. -/
def Rw (w : World) (g : Nat) (L : List Int) : Prop := Row w .u8 g 0 L ∧ g < w.heap.size
theorem Rw.on {w w' : World} {g : Nat} {L : List Int} (h : Rw w g L) (hb : Below w.heap.size w w') : Rw w' g L := ⟨h.1.below hb h.2, Nat.lt_of_lt_of_le h.2 hb.size⟩
theorem Rw.cell {w : World} {g : Nat} {L : List Int} (h : Rw w g L) (j : Nat) (hj : j < L.length) : w.cell? ⟨g, j, none⟩ = some (.int .u8 (L.getD j 0)) := by
  have := h.1 j hj
  rwa [Nat.zero_add] at this
/-- One more byte behind bytes that fill their slice. -/
theorem wpList_append_xg {w : World} {ops : Array Oper} {rest : List Oper} {o : Oper} {a : Act} {Q : Exit → Act → World → Prop} (hgd : o.guard = none) (s x : Operand)
    (ho : o.op = .call { callee := .builtin .append, args := #[s, x], argTypes := #[22, 22] }) (vo : Option Addr) (n g : Nat) (L : List Int) (hs : a.eval s = .slice vo n n) (H : XG w g vo L) (hL : L.length = n) (b : Nat) (y : Int) (hx : a.eval x = .slice (some ⟨b, 0, none⟩) 1 1) (hat : At w .u8 (some ⟨b, 0, none⟩) [y]) (hn : n ≤ 1000000)
    (h : ∀ g' cap w', n + 1 ≤ cap → cap ≤ maxLen → Rw w' g' (L ++ [y]) → Below w.heap.size w w' → wpList Tryd.prog ops Q rest (a.put o.dst (.slice (some ⟨g', 0, none⟩) (n + 1) cap)) w') : wpList Tryd.prog ops Q (o :: rest) a w := by
  obtain ⟨i, hi, hz0, hz1, hz2⟩ := info_parts Tryd.info5
  have fin : ∀ v' w', (Builtin.append_ #[22, 22] o.type #[.slice vo n n, .slice (some ⟨b, 0, none⟩) 1 1]).run Tryd.prog w = .ok v' w' → Holds w w' .u8 5 v' (L ++ [y]) → wpList Tryd.prog ops Q (o :: rest) a w := fun v' w' hr hH => by
    obtain ⟨g', cap, hv, _, ho', hcm⟩ := hH.toOwn (by simp)
    have hc := ho'.len
    have hl : (L ++ [y]).length = n + 1 := by simp [hL]
    rw [hl] at hv hc
    subst hv
    refine wpList_plain hgd fun K hK => ?_
    unfold Oper.wp execOp
    simp only [ho, resolve, invoke, builtin, Sem.run_bind, Sem.run_pure, Result.andThen_ok, List.map_toArray, List.map_cons, List.map_nil, hs, hx, hr]
    exact hK _ _ (h g' cap w' hc hcm ⟨ho'.row, ho'.lt⟩ hH.below)
  have h63 : n + 1 ≤ maxLen := by unfold maxLen; omega
  rcases H with ⟨rfl, rfl⟩ | ⟨rfl, cap, ow⟩
  · have hn0 : n = 0 := by simpa using hL.symm
    subst hn0
    obtain ⟨v2, w2, hr2, h1, h2, _⟩ := run_append_own (P := Tryd.prog) w w.heap.size 22 o.type 5 i _ 1 1 Tryd.underlying22 hi hz0 hz1 hz2 rfl (by decide) (.slice none 0 0) 0 [] (World.ownsRow_nil w _ 5 1) ⟨b, 0, none⟩ 1 1 ([y].map (Value.int .u8)) (by simp) hat.cells (ints_oneCell .u8 [y]) h63 (by omega) (Nat.le_refl _)
    exact fin v2 w2 hr2 (Holds.grow (Below.refl _ _) (fun g hg => by cases hg) h1 h2 (by simp) (by simp))
  · obtain ⟨v', w', h1, h2, h3⟩ := run_append_arg_grows (P := Tryd.prog) w 22 o.type 5 i _ 1 1 Tryd.underlying22 hi hz0 hz1 hz2 rfl (by decide) ⟨g, 0, none⟩ n n (L.map (Value.int .u8)) (by simp [hL]) (fun j v hv => by rw [Addr.add_mid]; exact ow.row.range j v hv) ⟨b, 0, none⟩ 1 1 ([y].map (Value.int .u8)) (by simp) hat.cells (by omega) h63 (by omega)
    have hl : (L ++ [y]).length = n + 1 := by simp [hL]
    rw [← List.map_append, ← hl] at h2
    exact fin v' w' h1 ⟨h2, (Below.refl _ _).grown h3 (Nat.le_refl _) (fun _ h => by cases h)⟩
theorem rep_mid (n k : Nat) (u : Int) (h : k + 1 ≤ n) : ((List.replicate n u).drop 1).take k = List.replicate k u := by
  rw [List.drop_replicate, List.take_replicate, Nat.min_eq_left (by omega)]
theorem wds_rep (n : Nat) : Wds (List.replicate n 7) := fun i => by
  rw [List.getD_eq_getElem?_getD, List.getElem?_replicate]
  split <;> simp
/-- Each byte with one more. -/
def inc (b : Int) : Int := IntKind.u8.wrap (b + 1)
theorem inc_bts (L : List Int) : Bts (L.map inc) := fun i => by
  rw [List.getD_eq_getElem?_getD, List.getElem?_map]
  cases L[i]? with
  | none => simp
  | some b =>
    simp only [Option.map_some, Option.getD_some]
    unfold inc
    rw [IntKind.wrap_u8]
    omega
theorem set_inc (L : List Int) (j : Nat) (h : j < L.length) : ((L.take j).map inc ++ L.drop j).set j (inc (L.getD j 0)) = (L.take (j + 1)).map inc ++ L.drop (j + 1) := by
  have hl : ((L.take j).map inc).length = j := by simp; omega
  rw [List.set_append_right _ _ (by omega), hl, Nat.sub_self, List.drop_eq_getElem_cons h, List.set_cons_zero, List.take_succ_eq_append_getElem h, List.map_append, List.append_assoc]
  simp [List.getD_eq_getElem?_getD, h]
theorem inc_getD (L : List Int) (j : Nat) (h : j < L.length) : ((L.take j).map inc ++ L.drop j).getD j 0 = L.getD j 0 := by
  have hl : ((L.take j).map inc).length = j := by simp; omega
  rw [List.getD_eq_getElem?_getD, List.getElem?_append_right (by omega), hl, Nat.sub_self, List.getElem?_drop, Nat.add_zero, ← List.getD_eq_getElem?_getD]
theorem inc_mid (xs : List Int) (n t : Nat) (h : xs.length = n) : (((roomBD xs t).map inc).drop 1).take n = xs.map inc := by
  rw [← List.map_drop, ← List.map_take, roomB_mid xs n t h]
/-- What is known of the arguments. -/
structure KC (W : World) (ka : Option Addr) (kn kc : Nat) (ks : List Int) (ma : Option Addr) (mn mc : Nat) (xs : List Int) (sa : Option Addr) (sn sc : Nat) (ss : List Int) (ea : Option Addr) (en ec : Nat) (es : List Int) (ia : Option Addr) (il ic : Nat) (is : List Int) : Prop where
  hkl : ks.length = kn
  wk : Wds ks
  AK : ∀ w, Bw W w → At w .u32 ka ks
  S1 : Sl ka kc
  hkn : 4 * kn ≤ 140737488351232
  hml : xs.length = mn
  wm : Wds xs
  AM : ∀ w, Bw W w → At w .u32 ma xs
  S2 : Sl ma mc
  hmn : 4 * mn ≤ 140737488351232
  hsl : ss.length = sn
  ps : Bts ss
  AS : ∀ w, Bw W w → At w .u8 sa ss
  S3 : Sl sa sc
  hsn : sn ≤ 140737488351232
  hel : es.length = en
  pe : Bts es
  AE : ∀ w, Bw W w → At w .u8 ea es
  S4 : Sl ea ec
  hen : en ≤ 140737488351232
  hil : is.length = il
  pi : Bts is
  AI : ∀ w, Bw W w → At w .u8 ia is
  S5 : Sl ia ic
  hin : il ≤ 4096
  zW : 2 < W.heap.size
/-- The cells of the two arguments. -/
structure KQ (cs cq : List Value) (ka : Option Addr) (kn kc : Nat) (ma : Option Addr) (mn mc : Nat) (sa : Option Addr) (sn sc : Nat) (ea : Option Addr) (en ec : Nat) (ia : Option Addr) (il ic : Nat) (N : Int) : Prop where
  c0 : cs[0]? = some (.slice ka kn kc)
  c1 : cs[1]? = some (.slice ma mn mc)
  q0 : cq[0]? = some (.slice sa sn sc)
  q1 : cq[1]? = some (.slice ea en ec)
  q2 : cq[2]? = some (.slice ia il ic)
  q3 : cq[3]? = some (.int .i64 N)
/-- Behind the fourteenth region. -/
structure K2 (W w : World) (cs cq : List Value) (ks xs ss es is H K KY : List Int) (gu cu gv cv ga ca gb cb gI cI gw gm gi go g14 nu nv na nb ni kn mn sn en il : Nat) : Prop where
  TB : Tabs w
  BB : Bw W w
  BC : Cel w W.heap.size 39 cs
  BQ : Cel w (W.heap.size + 1) 24 cq
  OU : Own w gu 25 .u32 cu (roomWD ks 200)
  OV : Own w gv 25 .u32 cv (roomWD xs 200)
  OA : Own w ga 5 .u8 ca (roomBD ss 400)
  OB : Own w gb 5 .u8 cb (roomBD es 400)
  OI : Own w gI 5 .u8 cI (roomBD is 400)
  OW : Blk w gw .u32 26 H
  MH : MacH w gm gi go K xs
  OK : Blk w g14 .u32 26 KY
  hH : hmac (bytesD ks) (bytesD xs) = H
  hK : keyW (bytesD ks) = K
  hKY : hmac ss es = KY
  hKl : KY.length = 8
  hKw : Wds KY
  z1 : W.heap.size + 1 < gu
  z2 : gu < gv
  z3 : gv < ga
  z4 : ga < gb
  z5 : gb < gI
  z6 : gI < gw
  z7 : gw < gm
  z8 : gw < gi
  z9 : gw < go
  z10 : gm < g14
  z11 : gi < g14
  z12 : go < g14
  nu_ : nu = kn + 1 + 200
  nv_ : nv = mn + 1 + 200
  na_ : na = sn + 1 + 400
  nb_ : nb = en + 1 + 400
  ni_ : ni = il + 1 + 400
  cu_ : nu ≤ cu
  cv_ : nv ≤ cv
  ca_ : na ≤ ca
  cb_ : nb ≤ cb
  cI_ : ni ≤ cI
  mu : (cu : Int) ≤ 9223372036854775807
  mv : (cv : Int) ≤ 9223372036854775807
  mI : (cI : Int) ≤ 9223372036854775807
/-- Behind the lists that were written over. -/
structure K3 (W w : World) (cs cq : List Value) (ks xs ss es is H K KY E1 : List Int) (gu cu gv cv gI cI gw gm gi go g14 BX CX nu nv ni kn mn il n : Nat) (vx : Option Addr) : Prop where
  TB : Tabs w
  BB : Bw W w
  BC : Cel w W.heap.size 39 cs
  BQ : Cel w (W.heap.size + 1) 24 cq
  OU : Own w gu 25 .u32 cu (List.replicate nu 7)
  OV : Own w gv 25 .u32 cv (List.replicate nv 7)
  OI : Own w gI 5 .u8 cI (roomBD is 400)
  OW : Blk w gw .u32 26 H
  MH : MacH w gm gi go K xs
  OK : Blk w g14 .u32 26 KY
  OX : XW w BX CX vx E1
  hH : hmac (bytesD ks) (bytesD xs) = H
  hK : keyW (bytesD ks) = K
  hKY : hmac ss es = KY
  hE1 : okm (bytesD KY) is n = E1
  hKl : KY.length = 8
  hKw : Wds KY
  hn : (n : Int) ≤ 100
  z1 : W.heap.size + 1 < gu
  z5 : gu < gI
  z6 : gI < gw
  z7 : gw < gm
  z8 : gw < gi
  z9 : gw < go
  z10 : gm < g14
  z11 : gi < g14
  z12 : go < g14
  z13 : g14 < BX
  z14 : CX ≤ w.heap.size
  nu_ : nu = kn + 1 + 200
  nv_ : nv = mn + 1 + 200
  ni_ : ni = il + 1 + 400
  cu_ : nu ≤ cu
  cv_ : nv ≤ cv
  cI_ : ni ≤ cI
  mu : (cu : Int) ≤ 9223372036854775807
  mv : (cv : Int) ≤ 9223372036854775807
  mI : (cI : Int) ≤ 9223372036854775807
/-- Ahead of the answers being written over. -/
structure K4 (W w : World) (cs cq : List Value) (ks xs is H K KY E1 L1 L2 LI : List Int) (gI cI gw gm gi go g14 gx gy ni il n : Nat) (vx vy : Option Addr) : Prop where
  TB : Tabs w
  BB : Bw W w
  BC : Cel w W.heap.size 39 cs
  BQ : Cel w (W.heap.size + 1) 24 cq
  OI : Own w gI 5 .u8 cI LI
  OW : Blk w gw .u32 26 H
  MH : MacH w gm gi go K xs
  OK : Blk w g14 .u32 26 KY
  OX : XG w gx vx L1
  OY : XG w gy vy L2
  hH : hmac (bytesD ks) (bytesD xs) = H
  hK : keyW (bytesD ks) = K
  hE1 : okm (bytesD KY) is n = E1
  hKl : KY.length = 8
  hKw : Wds KY
  hn : (n : Int) ≤ 100
  z1 : W.heap.size + 1 < gI
  z6 : gI < gw
  z7 : gw < gm
  z8 : gw < gi
  z9 : gw < go
  z10 : gm < g14
  z11 : gi < g14
  z12 : go < g14
  z13 : g14 < gx
  z14 : g14 < gy
  z15 : gx ≠ gy
  ni_ : ni = il + 1 + 400
  cI_ : ni ≤ cI
  mI : (cI : Int) ≤ 9223372036854775807
end Go.Proofs.YtialckmoigcdeaaDoor
