import Derived.Test.YtbpdmkohihgnjaaGreatDoorP11
import Derived.Test.YtbpdmkohihgnjaaGreatDoorP12
import Derived.Test.YtbpdmkohihgnjaaGreatDoorP30
namespace Go.Proofs.YtbpdmkohihgnjaaGreatDoor
open Go.RowKit
set_option maxRecDepth 100000

theorem wpList_append_new {P : Program} {w : World} {ops : Array Oper} {rest : List Oper} {o : Oper} {a : Act} {Q : Exit → Act → World → Prop} (hgd : o.guard = none) (s x : Operand) (t : TypeId)
    (ho : o.op = .call { callee := .builtin .append, args := #[s, x], argTypes := #[t, t] }) (k : IntKind) (e : TypeId) (i : TypeInfo) (z : Value) (bytes : Nat) (ht : P.underlying t = some (.slice e)) (hi : P.info? e = some i) (hz : i.zero = some z) (hsize : i.size = 1) (hby : i.bytes = bytes) (hzs : z.cells.size = 1)
    (hs : a.eval s = .slice none 0 0) (ao : Option Addr) (m c : Nat) (xs : List Int) (hx : a.eval x = .slice ao m c) (hl : xs.length = m) (hat : At w k ao xs) (h63 : m ≤ maxLen) (hbytes : m * bytes ≤ 140737488355328)
    (h : ∀ v' w', Holds w w' k e v' xs → wpList P ops Q rest (a.put o.dst v') w') : wpList P ops Q (o :: rest) a w := by
  have key : ∃ v' w', (Builtin.append_ #[t, t] o.type #[.slice none 0 0, .slice ao m c]).run P w = .ok v' w' ∧ Holds w w' k e v' xs := by
    cases ao with
    | none =>
      have hx0 : xs = [] := by
        rcases hat with h0 | ⟨b, off, h1, _⟩
        · exact h0
        · cases h1
      subst hx0
      simp at hl
      subst hl
      refine ⟨.slice none 0 0, w, ?_, Holds.start _ _ _⟩
      simp [Builtin.append_, run_underlying ht, sizeOf, typeInfo, hi, Builtin.lenOf, Builtin.firstCells]
    | some ad =>
      obtain ⟨v', w', hr, h1, h2, _⟩ := run_append_own (P := P) w w.heap.size t o.type e i z 1 bytes ht hi hz hsize hby hzs (by decide) (.slice none 0 0) 0 [] (World.ownsRow_nil w _ e 1) ad m c (xs.map (Value.int k)) (by simp [hl]) hat.cells (ints_oneCell k xs) (by omega) (by rw [Nat.zero_add]; exact hbytes) (Nat.le_refl _)
      exact ⟨v', w', hr, Holds.grow (Below.refl _ _) (fun g hg => by cases hg) h1 h2 (by simp [hl]) (by simp)⟩
  obtain ⟨v', w', hr, hH⟩ := key
  refine wpList_plain hgd fun K hK => ?_
  unfold Oper.wp execOp
  simp only [ho, resolve, invoke, builtin, Sem.run_bind, Sem.run_pure, Result.andThen_ok, List.map_toArray, List.map_cons, List.map_nil, hs, hx, hr]
  exact hK _ _ (h _ _ hH)
theorem wpList_append_more {P : Program} {W w : World} {ops : Array Oper} {rest : List Oper} {o : Oper} {a : Act} {Q : Exit → Act → World → Prop} (hgd : o.guard = none) (s x : Operand) (t : TypeId)
    (ho : o.op = .call { callee := .builtin .append, args := #[s, x], argTypes := #[t, t] }) (k : IntKind) (e : TypeId) (i : TypeInfo) (z : Value) (bytes : Nat) (ht : P.underlying t = some (.slice e)) (hi : P.info? e = some i) (hz : i.zero = some z) (hsize : i.size = 1) (hby : i.bytes = bytes) (hzs : z.cells.size = 1)
    (v : Value) (L : List Int) (hs : a.eval s = v) (H : Holds W w k e v L) (gs m c : Nat) (xs : List Int) (hx : a.eval x = .slice (some ⟨gs, 0, none⟩) m c) (hl : xs.length = m) (hgs : Row w k gs 0 xs) (h63 : L.length + m ≤ maxLen) (hbytes : (L.length + m) * bytes ≤ 140737488355328)
    (h : ∀ v' w', Holds W w' k e v' (L ++ xs) → wpList P ops Q rest (a.put o.dst v') w') : wpList P ops Q (o :: rest) a w := by
  obtain ⟨v', w', hr, h1, h2, _⟩ := run_append_own (P := P) w W.heap.size t o.type e i z 1 bytes ht hi hz hsize hby hzs (by decide) v L.length _ H.own ⟨gs, 0, none⟩ m c (xs.map (Value.int k)) (by simp [hl]) (fun j v hv => by rw [Addr.add_mid]; exact hgs.range j v hv) (ints_oneCell k xs) h63 hbytes H.below.size
  have hH : Holds W w' k e v' (L ++ xs) := Holds.grow H.below (fun g hg => (H.own.lt g hg).1) h1 h2 (by simp [hl]) (by simp)
  refine wpList_plain hgd fun K hK => ?_
  unfold Oper.wp execOp
  simp only [ho, resolve, invoke, builtin, Sem.run_bind, Sem.run_pure, Result.andThen_ok, List.map_toArray, List.map_cons, List.map_nil, hs, hx, hr]
  exact hK _ _ (h _ _ hH)
theorem row_new (W : World) (k : IntKind) (e : TypeId) (L : List Int) (C : Array Value) (hC : C = (L.map (Value.int k)).toArray) : Row (W.alloc (.cells C e)) k W.heap.size 0 L := by
  subst hC
  exact (Blk.new W k e L).row
def bz (m : Nat) : Nat := (119 - m % 64) % 64
def lenB (b : Int) (t : Nat) : List Int := (List.range t).map fun k => b / 2 ^ (56 - 8 * k) % 256
def padB (bs : List Int) : List Int := ((bs ++ [128]) ++ List.replicate (bz bs.length) 0) ++ lenB (8 * (bs.length : Int)) 8
theorem lenB_succ (b : Int) (t : Nat) : lenB b (t + 1) = lenB b t ++ [b / 2 ^ (56 - 8 * t) % 256] := by simp [lenB, List.range_succ]
theorem lenB_length (b : Int) (t : Nat) : (lenB b t).length = t := by simp [lenB]
theorem wordsD_len (b : Int) (h0 : 0 ≤ b) (h1 : b < 18446744073709551616) : wordsD (lenB b 8) 2 = [b / 4294967296, b % 4294967296] := by
  have e : wordsD (lenB b 8) 2 = [w4 (b / 2 ^ 56 % 256) (b / 2 ^ 48 % 256) (b / 2 ^ 40 % 256) (b / 2 ^ 32 % 256), w4 (b / 2 ^ 24 % 256) (b / 2 ^ 16 % 256) (b / 2 ^ 8 % 256) (b / 2 ^ 0 % 256)] := by
    apply list_ext_getD
    · rfl
    · intro i hi
      rw [wordsD_length] at hi
      rw [wordsD_getD _ _ _ hi]
      match i, hi with
      | 0, _ => rfl
      | 1, _ => rfl
  rw [e]
  simp only [w4]
  congr 1
  · omega
  · congr 1; omega
theorem padB_form (bs : List Int) : padB bs = ((bs.take (4 * (bs.length / 4)) ++ endB bs (bs.length / 4)) ++ List.replicate (4 * S.pz (bs.length / 4 + 1)) 0) ++ lenB (8 * (bs.length : Int)) 8 := by
  obtain ⟨m, hm⟩ : ∃ m, m = bs.length := ⟨_, rfl⟩
  obtain ⟨n, hn⟩ : ∃ n, n = m / 4 := ⟨_, rfl⟩
  obtain ⟨r, hr⟩ : ∃ r, r = m % 4 := ⟨_, rfl⟩
  have hbz : bz m = (3 - r) + 4 * S.pz (n + 1) := by unfold bz S.pz; omega
  unfold padB
  rw [← hm, ← hn]
  congr 1
  rw [hbz, ← List.replicate_append_replicate, ← List.append_assoc]
  congr 1
  have hd : (bs.drop (4 * n)).length = r := by rw [List.length_drop]; omega
  unfold endB
  have e4 : (bs.drop (4 * n)).take 4 = bs.drop (4 * n) := List.take_of_length_le (by omega)
  rw [List.take_append, hd, e4, ← List.append_assoc, List.take_append_drop, List.append_assoc]
  congr 1
  match r, show r < 4 by omega with
  | 0, _ => rfl
  | 1, _ => rfl
  | 2, _ => rfl
  | 3, _ => rfl
theorem padB_words (bs : List Int) (hm : bs.length ≤ 140737488355328) : ∃ q, (padB bs).length = 64 * q ∧ wordsD (padB bs) (16 * q) = S.pad (wordsD (bs.take (4 * (bs.length / 4))) (bs.length / 4) ++ endW bs (bs.length / 4)) (8 * (bs.length : Int)) ∧ q = (S.pad (wordsD (bs.take (4 * (bs.length / 4))) (bs.length / 4) ++ endW bs (bs.length / 4)) (8 * (bs.length : Int))).length / 16 := by
  obtain ⟨n, hn⟩ : ∃ n, n = bs.length / 4 := ⟨_, rfl⟩
  rw [padB_form, ← hn]
  have hl1 : (bs.take (4 * n)).length = 4 * n := by rw [List.length_take]; omega
  have hl : (((bs.take (4 * n) ++ endB bs n) ++ List.replicate (4 * S.pz (n + 1)) 0) ++ lenB (8 * (bs.length : Int)) 8).length = 4 * (n + 1 + S.pz (n + 1) + 2) := by
    simp only [List.length_append, hl1, endB_length, List.length_replicate, lenB_length]; omega
  have hq : (n + 1 + S.pz (n + 1) + 2) % 16 = 0 := by unfold S.pz; omega
  have hE : (endW bs n).length = 1 := wordsD_length _ _
  have hW : (wordsD (bs.take (4 * n)) n ++ endW bs n).length = n + 1 := by rw [List.length_append, wordsD_length, hE]
  refine ⟨(n + 1 + S.pz (n + 1) + 2) / 16, by rw [hl]; omega, ?_, by rw [pad_length, hW]⟩
  rw [show 16 * ((n + 1 + S.pz (n + 1) + 2) / 16) = n + 1 + S.pz (n + 1) + 2 by omega]
  rw [wordsD_append _ _ _ 2 (by simp only [List.length_append, hl1, endB_length, List.length_replicate]; omega), wordsD_append _ _ _ (S.pz (n + 1)) (by simp only [List.length_append, hl1, endB_length]; omega), wordsD_append _ _ _ 1 hl1, wordsD_zeros, wordsD_len _ (by omega) (by omega)]
  unfold S.pad
  rw [hW]
  rfl
theorem sumB_chain (bs : List Int) (hm : bs.length ≤ 140737488355328) : ∃ q, (padB bs).length = 64 * q ∧ sumB bs = S.run S.First (wordsD (padB bs) (16 * q)) q := by
  obtain ⟨q, h1, h2, h3⟩ := padB_words bs hm
  refine ⟨q, h1, ?_⟩
  unfold sumB
  rw [fin_all _ _ _ _ _ (by rw [wordsD_length]), h2]
  unfold S.fin
  rw [← h3]
end Go.Proofs.YtbpdmkohihgnjaaGreatDoor
namespace Go.Proofs.YtbpdmkohihgnjaaGreatDoor
open Go.RowKit
set_option maxRecDepth 100000

attribute [-simp] Tryz.isAgg197 Tryz.sizeOf197 Tryz.zeroValue197
set_option maxRecDepth 20000 in
set_option maxHeartbeats 2000000 in
theorem blockAt_any (W : World) (ao : Option Addr) (m c i : Nat) (bs : List Int) (hx : bs.length = m) (hbs : Bts bs) (hat : At W .u8 ao bs) (hi : i + 64 ≤ m) (hm : m ≤ 140737488355328) :
    Calls Tryz.prog 114 #[.slice ao m c, .int .i64 (i : Int)] W fun e W' => e = .returned (Ag (wordsD ((bs.drop i).take 64) 16)) ∧ Below W.heap.size W W' := by
  rcases hat with h0 | ⟨b, off, rfl, hbl, h1⟩
  · rw [h0] at hx; simp at hx; omega
  obtain ⟨Y, hY⟩ : ∃ Y : List Int, Y = List.replicate 16 0 := ⟨_, rfl⟩
  have hYl : Y.length = 16 := by rw [hY]; simp
  have hz' : ∀ w, (zeroValue 197).run Tryz.prog w = .ok (.agg (Y.map (Value.int .u32)).toArray) w := fun w => by rw [Tryz.zeroValue197, hY]; rfl
  have hY0 : ∀ b, partW b 16 0 = Y := fun b => by rw [hY]; exact partW_zero b 16
  clear hY
  obtain ⟨bk, hbk⟩ : ∃ bk, bk = (bs.drop i).take 64 := ⟨_, rfl⟩
  have hbkb : Bts bk := by rw [hbk]; exact bts_take (bts_drop hbs _) _
  have hbkg : ∀ j, j < 64 → bk.getD j 0 = bs.getD (i + j) 0 := fun j hj => by rw [hbk, getD_take hj, getD_drop]
  rw [← hbk]
  clear hbk
  have i1 : (i : Int) + 64 ≤ (m : Int) := by omega
  have i2 : (m : Int) ≤ 140737488355328 := by omega
  have b0 : Blk ((W.alloc (Obj.cells (List.map (Value.int IntKind.u32) Y).toArray 197)).alloc (Obj.cells (List.map (Value.int IntKind.u32) Y).toArray 197)) W.heap.size .u32 197 Y := (Blk.new W .u32 197 Y).alloc _
  have b1 : Blk ((W.alloc (Obj.cells (List.map (Value.int IntKind.u32) Y).toArray 197)).alloc (Obj.cells (List.map (Value.int IntKind.u32) Y).toArray 197)) (W.heap.size + 1) .u32 197 Y := Blk.newAt (by simp) .u32 197 Y
  have hb0 : Below W.heap.size W ((W.alloc (Obj.cells (List.map (Value.int IntKind.u32) Y).toArray 197)).alloc (Obj.cells (List.map (Value.int IntKind.u32) Y).toArray 197)) := (below_one _ _).alloc (by simp) _
  have B0 : Hid (Blk _ W.heap.size .u32 197 Y) := b0
  have B1 : Hid (Blk _ (W.heap.size + 1) .u32 197 Y) := b1
  have HB0 : Hid (Below W.heap.size W _) := hb0
  clear b0 b1 hb0 hm hi
  go_enter Tryz.func114, Tryz.ntmps114
  go_wp2
  go_loopw [6, 7] (fun j _ wr => ∃ t : Nat, t ≤ 16 ∧ j = .int .i64 (t : Int) ∧ Blk wr W.heap.size .u32 197 Y ∧ Blk wr (W.heap.size + 1) .u32 197 (partW bk 16 (4 * t)) ∧ Below W.heap.size W wr) (fun j _ _ => 16 - (intOf j).toNat)
  case atStart => exact ⟨0, by decide, rfl, B0.out, by rw [hY0]; exact B1.out, HB0.out⟩
  case round =>
    clear B0 B1 HB0
    obtain ⟨t, ht, rfl, b0, b1, hb⟩ := hrel
    by_cases hlt : t < 16
    · go_wp2
      go_loopw [7] (fun j wr => ∃ k : Nat, k ≤ 4 ∧ j = .int .i64 (k : Int) ∧ Blk wr W.heap.size .u32 197 Y ∧ Blk wr (W.heap.size + 1) .u32 197 (partW bk 16 (4 * t + k)) ∧ Below W.heap.size W wr) (fun j _ => 4 - (intOf j).toNat)
      case atStart => exact ⟨0, by decide, rfl, b0, b1, hb⟩
      case round =>
        clear b0 b1 hb
        obtain ⟨k, hk, rfl, b0, b1, hb⟩ := hrel
        by_cases hklt : k < 4
        · have hcb := (h1.below hb hbl) (i + (4 * t + k)) (by rw [hx]; omega)
          rw [← hbkg (4 * t + k) (by omega)] at hcb
          obtain ⟨q0, q1⟩ := hbkb (4 * t + k)
          obtain ⟨x0, x1⟩ := wordAt_bound bk hbkb t k hklt
          have hps := partW_step bk 16 t k hlt hklt
          have hcell := b1.cell t (by rw [partW_length]; omega)
          rw [partW_getD bk 16 _ t hlt] at hcell
          have hfree := b1.free t
          have HS : Hid (∀ u, u = wordAt bk (4 * t + k) t * 256 + bk.getD (4 * t + k) 0 → Blk (wr.drew.setCell ⟨W.heap.size + 1, t, none⟩ (.int .u32 u)) W.heap.size .u32 197 Y ∧ Blk (wr.drew.setCell ⟨W.heap.size + 1, t, none⟩ (.int .u32 u)) (W.heap.size + 1) .u32 197 (partW bk 16 (4 * t + k + 1)) ∧ Below W.heap.size W (wr.drew.setCell ⟨W.heap.size + 1, t, none⟩ (.int .u32 u))) := fun u hu => by
            have := b1.drew.set t u
            rw [hps u hu] at this
            exact ⟨b0.drew.other _ (by omega), this, hb.drew.setCell (show W.heap.size ≤ W.heap.size + 1 by omega) _⟩
          have j1 : (i : Int) + 4 * (t : Int) + (k : Int) < (m : Int) := by omega
          have j2 : ((i : Int) + 4 * (t : Int) + (k : Int)).toNat = i + (4 * t + k) := by omega
          have j3 : (0 : Int) ≤ (i : Int) + 4 * (t : Int) + (k : Int) := by omega
          have j4 : IntKind.i64.wrap ((i : Int) + 4 * (t : Int) + (k : Int)) = (i : Int) + 4 * (t : Int) + (k : Int) := by rw [IntKind.wrap_i64]; omega
          have j5 : IntKind.i64.wrap ((i : Int) + 4 * (t : Int)) = (i : Int) + 4 * (t : Int) := by rw [IntKind.wrap_i64]; omega
          clear b0 b1 hb hps
          generalize wordAt bk (4 * t + k) t = x at *
          generalize bk.getD (4 * t + k) 0 = y at *
          go_wp2
          go_region
          go_wp2
          go_roundw
          case rel =>
            exact ⟨k + 1, by omega, by go_num, HS.out _ (by omega)⟩
          case measure => simp [intOf]; omega
        · obtain rfl : k = 4 := by omega
          go_wp2
          go_roundw
          case rel => exact ⟨t + 1, by omega, by go_num, b0, b1, hb⟩
          case measure => simp [intOf]; omega
    · obtain rfl : t = 16 := by omega
      have hl : (wordsD bk 16).length = 16 := wordsD_length _ _
      have B0 : Hid (Blk wr W.heap.size .u32 197 Y) := b0
      have B1 : Hid (Blk wr (W.heap.size + 1) .u32 197 (wordsD bk 16)) := b1
      have HB : Hid (Below W.heap.size W wr) := hb
      clear b0 b1 hb
      go_wp2_with (first | (refine wpList_load_blk rfl 197 _ rfl (W.heap.size + 1) (wordsD bk 16) rfl B1.out Tryz.underlying197 (by rw [hl]; exact size64) ?_) | (refine wpList_store_blk rfl 197 _ _ rfl W.heap.size (wordsD bk 16) rfl rfl B0.out (by rw [hl]; exact size64) (by rw [hl, hYl]) ?_))
      refine ret_cell rfl rfl W.heap.size (wordsD bk 16) rfl (B0.out.setRow _) Tryz.underlying197 (by rw [hl]; exact size64) ⟨rfl, ?_⟩
      exact below_setRow HB.out (Nat.le_refl _) _
end Go.Proofs.YtbpdmkohihgnjaaGreatDoor
