import Derived.Test.YtllcbgdcepfdkaaGreatDoorP29
namespace Go.Proofs.YtllcbgdcepfdkaaGreatDoor.H
open Go.RowKit

def sumB (bs : List Int) : List Int := S.fin (S.run S.First (wordsD (bs.take (4 * (bs.length / 4))) (bs.length / 4)) (bs.length / 4 / 16)) ((wordsD (bs.take (4 * (bs.length / 4))) (bs.length / 4)).drop (16 * (bs.length / 4 / 16)) ++ endW bs (bs.length / 4)) (8 * (bs.length : Int))
def sumW (xs : List Int) : List Int := S.fin (S.run S.First xs (xs.length / 16)) (xs.drop (16 * (xs.length / 16)) ++ [2147483648]) (32 * (xs.length : Int))

end Go.Proofs.YtllcbgdcepfdkaaGreatDoor.H
namespace Go.Proofs.YtllcbgdcepfdkaaGreatDoor.H
open Go.RowKit

def DigL (W : World) (g : Nat) (L : List Int) : Prop := Dig W g (S.run S.First L (L.length / 16)) L.length (L.drop (16 * (L.length / 16)))
theorem DigL.lt {W : World} {g : Nat} {L : List Int} (h : DigL W g L) : g < W.heap.size := Dig.lt h
theorem DigL.below {W w : World} {g : Nat} {L : List Int} (h : DigL W g L) (hb : Below W.heap.size W w) : DigL w g L := Dig.below h hb (Dig.lt h)
theorem DigL.but {W w : World} {g i : Nat} {L : List Int} (h : DigL W i L) (hb : But g W w) (hi : i ≠ g) : DigL w i L := Dig.but h hb hi
theorem newL_any (W : World) :
    Calls Tryz.prog 101 #[] W fun e W' => ∃ g, W.heap.size ≤ g ∧ e = .returned (.pointer (some ⟨g, 0, none⟩)) ∧ DigL W' g [] ∧ Below W.heap.size W W' := new_any W
theorem At.cut {W : World} {k : IntKind} {ao : Option Addr} {xs : List Int} (h : At W k ao xs) (n cap a m : Nat) (hx : xs.length = n) (hc : n ≤ cap) (ha : a + m ≤ n) : At W k (if cap = a then ao else Option.map (fun x => x.add a) ao) ((xs.drop a).take m) := by
  rcases Nat.eq_zero_or_pos m with rfl | hm
  · left; simp
  · rcases h with h0 | ⟨b, off, rfl, hb, hr⟩
    · rw [h0] at hx; simp at hx; omega
    · rw [if_neg (by omega)]
      exact .inr ⟨b, off + a, by simp [Addr.add_mid], hb, (hr.drop a).take m⟩
theorem At.head {W : World} {k : IntKind} {ao : Option Addr} {xs : List Int} (h : At W k ao xs) (a : Nat) : At W k ao (xs.take a) := by
  rcases h with h0 | ⟨b, off, h1, hb, hr⟩
  · left; rw [h0]; simp
  · exact .inr ⟨b, off, h1, hb, hr.take a⟩
end Go.Proofs.YtllcbgdcepfdkaaGreatDoor.H
namespace Go.Proofs.YtllcbgdcepfdkaaGreatDoor.Q
open Go.RowKit
open Go.Proofs.YtllcbgdcepfdkaaGreatDoor.H
set_option maxHeartbeats 4000000
set_option maxRecDepth 100000
theorem Cel.setr {w : World} {g : Nat} {t : TypeId} {cs : List Value} (h : Cel w g t cs) (vs : List Value) : Cel (w.setRow g vs.toArray) g t vs := setRow_heap w g _ _ t _ h
theorem _root_.Go.Proofs.YtllcbgdcepfdkaaGreatDoor.H.Cel.on {w w' : World} {g : Nat} {t : TypeId} {cs : List Value} (h : Cel w g t cs) (hb : Below w.heap.size w w') : Cel w' g t cs := h.below hb h.lt
theorem wp_store_st {P : Program} {op : Oper} {a : Act} {w : World} {K : Act → World → Prop} {Q : Exit → Act → World → Prop} (ty : TypeId) (x y : Operand) (ho : op.op = .store ty x y)
    (g : Nat) (vs : List Value) (hx : a.eval x = .pointer (some ⟨g, 0, none⟩)) (hy : a.eval y = .agg vs.toArray) {e : TypeId} {cs : List Value} (hg : Cel w g e cs) (hi : (P.info? ty).map (·.size) = some vs.length) (hl : cs.length = vs.length) (h1 : vs.all (·.oneCell') = true)
    (h : ∀ w', Cel w' g e vs → But g w w' → w'.heap.size = w.heap.size → K (a.put op.dst undef) w') : op.wp P a w K Q := by
  have hs : (Instr.storeAt ty (.pointer (some ⟨g, 0, none⟩)) (.agg vs.toArray)).run P w = .ok () (w.setRow g vs.toArray) := by
    simp only [Instr.storeAt, Instr.sureAddr, Sem.run_bind, Sem.run_pure, Result.andThen]
    exact run_storeVar_row w g e ty _ _ hg (by rw [hi]; simp) (by simp [hl]) (by simpa using h1)
  unfold Oper.wp execOp
  simp only [ho, hx, hy, Sem.run_bind, Sem.run_pure, hs, Result.andThen_ok]
  exact h _ (Cel.setr hg _) (but_setRow _ _ _) (by simp)
/-- Where a slice begins whose first e are left out. -/
def cutA (b off c e : Nat) : Addr := if c = e then ⟨b, off, none⟩ else ⟨b, off + e, none⟩
def zop : List Value := [.int .i64 0, .int .u32 0, .slice none 0 0]
theorem wrap_i64 (x : Int) (h0 : -9223372036854775808 ≤ x) (h1 : x < 9223372036854775808) : IntKind.wrap .i64 x = x := by
  rw [IntKind.wrap_i64]; omega
theorem wpList_store_st {P : Program} {ops : Array Oper} {rest : List Oper} {o : Oper} {a : Act} {w : World} {Q : Exit → Act → World → Prop} (hgd : o.guard = none) (ty : TypeId) (x y : Operand) (ho : o.op = .store ty x y)
    (g : Nat) (vs : List Value) (hx : a.eval x = .pointer (some ⟨g, 0, none⟩)) (hy : a.eval y = .agg vs.toArray) {e : TypeId} {cs : List Value} (hg : Cel w g e cs) (hi : (P.info? ty).map (·.size) = some vs.length) (hl : cs.length = vs.length) (h1 : vs.all (·.oneCell') = true)
    (h : ∀ w', Cel w' g e vs → But g w w' → w'.heap.size = w.heap.size → wpList P ops Q rest (a.put o.dst undef) w') : wpList P ops Q (o :: rest) a w :=
  wpList_store_row hgd ty x y ho g _ hx hy e _ hg (by rw [hi]; simp) (by simp [hl]) (by simpa using h1) (h _ (Cel.setr hg _) (but_setRow _ _ _) (by simp))
end Go.Proofs.YtllcbgdcepfdkaaGreatDoor.Q
namespace Go.Proofs.YtllcbgdcepfdkaaGreatDoor.Q
open Go.RowKit
open Go.Proofs.YtllcbgdcepfdkaaGreatDoor.H
set_option maxHeartbeats 4000000
set_option maxRecDepth 100000
/-- An operation's words, of the call's own. -/
def OW (W wr : World) (x : Ov) : Prop := wr.ownsRow W.heap.size 29 1 (.slice x.p x.o.ws.length x.c) x.o.ws.length (x.o.ws.map (Value.int .u32))
/-- A list of operations, of the call's own. -/
structure HO (W wr : World) (v : Value) (l : List Ov) : Prop where
  own : wr.ownsRow W.heap.size 54 3 v l.length (l.flatMap Ov.cs)
  below : Below W.heap.size W wr
  ws : ∀ x ∈ l, OW W wr x
  apart : l.Pairwise (fun x y => ∀ g, (Value.slice x.p x.o.ws.length x.c).ownBlock = some g → (Value.slice y.p y.o.ws.length y.c).ownBlock ≠ some g)
theorem HO.start (W : World) : HO W W (.slice none 0 0) [] := ⟨World.ownsRow_nil _ _ _ _, Below.refl _ _, by simp, .nil⟩
theorem HO.on {W w w' : World} {v : Value} {l : List Ov} (h : HO W w v l) (hb : Below w.heap.size w w') : HO W w' v l :=
  ⟨ownsRow_below h.own hb, below_on h.below hb, fun x hx => ownsRow_below (h.ws x hx) hb, h.apart⟩
/-- It can be read as a list. -/
theorem OW.at {W wr : World} {x : Ov} (h : OW W wr x) : At wr .u32 x.p x.o.ws := by
  rcases h.2 with ⟨e, h0⟩ | ⟨g, cap, cur, hv, hg, hh, hn, hm, hs, ht⟩
  · exact .inl (List.eq_nil_of_length_eq_zero h0)
  · injection hv with e1 _ e3
    refine .inr ⟨g, 0, e1, (Array.getElem?_eq_some_iff.1 hh).1, fun i hi => ?_⟩
    have := World.ownsRow.cellAt (w := wr) (base := W.heap.size) (e := 29) (size := 1) (g := g) (n := x.o.ws.length) (xs := x.o.ws.map (Value.int .u32)) ⟨h.1, .inr ⟨g, cap, cur, rfl, hg, hh, hn, hm, hs, ht⟩⟩ i (by omega)
    rw [Nat.zero_add, this]
    simp [List.getD_eq_getElem?_getD, hi]
end Go.Proofs.YtllcbgdcepfdkaaGreatDoor.Q
namespace Go.Proofs.YtllcbgdcepfdkaaGreatDoor.H
open Go.RowKit

/-- What a digest saves. -/
def saveL (A : List Int) (n : Nat) (p : List Int) : List Int := (A ++ [(n : Int) / 4294967296, (n : Int) % 4294967296]) ++ (p ++ List.replicate (16 - p.length) 0)
theorem saveL_length (A : List Int) (n : Nat) (p : List Int) (hA : A.length = 8) (hp : p.length ≤ 16) : (saveL A n p).length = 26 := by simp [saveL, hA]; omega

attribute [-simp] Tryz.isAgg59 Tryz.sizeOf59 Tryz.zeroValue59
set_option maxRecDepth 20000 in
set_option maxHeartbeats 2000000 in
theorem save_any (W : World) (g : Nat) (A : List Int) (n : Nat) (p : List Int) (D : Dig W g A n p) :
    Calls Tryz.prog 102 #[.pointer (some ⟨g, 0, none⟩)] W fun e W' => e = .returned (.agg ((saveL A n p).map (Value.int .u32)).toArray) ∧ Below W.heap.size W W' := by
  obtain ⟨Z, hZ⟩ : ∃ Z : List Int, Z = List.replicate 26 0 := ⟨_, rfl⟩
  have hZl : Z.length = 26 := by rw [hZ]; simp
  have hz : ∀ w, (zeroValue 59).run Tryz.prog w = .ok (.agg (Z.map (Value.int .u32)).toArray) w := fun w => by rw [Tryz.zeroValue59, hZ]; rfl
  have HZ : Hid (Z = List.replicate 26 0) := hZ
  clear hZ
  have hgl := D.lt
  have al := D.al
  have hpl := D.pl
  have hp16 : p.length < 16 := by rw [hpl]; omega
  have i1 : (n : Int) ≤ 36028797018963968 := by have := D.nl; omega
  obtain ⟨t, ht⟩ : ∃ t, n % 16 = t := ⟨_, rfl⟩
  have hX : Below W.heap.size W ((W.alloc (Obj.cells (List.map (Value.int IntKind.u32) Z).toArray 59)).alloc (Obj.cells (List.map (Value.int IntKind.u32) Z).toArray 59)) := (below_one W _).alloc (by simp) _
  have b1 : Blk ((W.alloc (Obj.cells (List.map (Value.int IntKind.u32) Z).toArray 59)).alloc (Obj.cells (List.map (Value.int IntKind.u32) Z).toArray 59)) W.heap.size .u32 59 Z := (Blk.new W .u32 59 Z).alloc _
  have b2 : Blk ((W.alloc (Obj.cells (List.map (Value.int IntKind.u32) Z).toArray 59)).alloc (Obj.cells (List.map (Value.int IntKind.u32) Z).toArray 59)) (W.heap.size + 1) .u32 59 Z := Blk.newAt (by simp) .u32 59 Z
  go_enter Tryz.func102, Tryz.ntmps102
  go_wp2
  generalize (W.alloc _).alloc _ = X at *
  have hsp : splice (Z.map (Value.int .u32)) 0 (A.map (Value.int .u32)) = (A ++ List.replicate 18 0).map (Value.int .u32) := by
    rw [HZ.out]; simp [splice, al]
  obtain ⟨c, hc⟩ : ∃ c, c = A.map (Value.int .u32) := ⟨_, rfl⟩
  obtain ⟨z, hzz⟩ : ∃ z, z = Z.map (Value.int .u32) := ⟨_, rfl⟩
  have hcl : c.length = 8 := by rw [hc]; simp [al]
  have HS : Hid (∀ w, w.heap[W.heap.size + 1]? = some (.cells (splice z 0 c).toArray 59 (0, 0)) → Blk w (W.heap.size + 1) .u32 59 (A ++ List.replicate 18 0)) := fun w h => by
    rw [hc, hzz, hsp] at h
    exact h
  have rA := (D.below hX hgl).rowA
  have H1 : Hid (X.drew.heap[W.heap.size + 1]? = some (.cells z.toArray 59 (0, 0))) := by rw [hzz]; exact b2
  have H2 : Hid (∀ j v, c[j]? = some v → X.drew.cell? ((⟨g, 0, none⟩ : Addr).add j) = some v) := fun j v hv => by
    rw [hc] at hv
    rw [Addr.add_mid]
    exact (rA.drewN 1).range j v hv
  have H3 : Hid (∀ v ∈ c, v.oneCell' = true) := by rw [hc]; exact ints_oneCell _ _
  have H4 : Hid (0 + c.length ≤ z.length) := by rw [hzz]; show _ ≤ _; simp [hcl, hZl]
  have H5 : Hid (Below (W.heap.size + 1) X X.drew) := (Below.refl _ _).drew
  have B1 : Hid (Blk X W.heap.size .u32 59 Z) := b1
  have HX : Hid (Below W.heap.size W X) := hX
  clear hc hzz hsp b1 b2 hX rA
  go_region_law (refine step_copy_splice rfl (.tmp 4) (.tmp 8) 52 52 rfl 29 Tryz.underlying52 size26 _ _ _ _ _ _ rfl rfl (W.heap.size + 1) 0 z 59 H1.out c (by rw [hcl]; rfl) (fun _ => ⟨rfl, _, rfl, H2.out⟩) H4.out H3.out (W.heap.size + 1) X H5.out (Nat.le_refl _) ?_; intro w4 hg4 hb4)
  have F0 := HS.out w4 hg4.out
  have B4 := (Blk.below B1.out hb4 (by omega))
  have hW4 := HX.out.trans (hb4.mono (by omega))
  have D4 := D.below hW4 hgl
  clear hg4 hb4 HS H1 H2 H3 H4 H5 B1 HX
  obtain ⟨hh, hhh⟩ : ∃ x, x = (n : Int) / 4294967296 := ⟨_, rfl⟩
  obtain ⟨ll, hll⟩ : ∃ x, x = (n : Int) % 4294967296 := ⟨_, rfl⟩
  have HIGH : Hid (∀ w, Calls Tryz.prog 167 #[.int .u64 (n : Int)] w fun e W' => e = .returned (.int .u32 hh) ∧ w = W') := by rw [hhh]; exact fun w => high_any w n (by omega) (by omega)
  have LOW : Hid (∀ w, Calls Tryz.prog 168 #[.int .u64 (n : Int)] w fun e W' => e = .returned (.int .u32 ll) ∧ w = W') := by rw [hll]; exact fun w => low_any w n
  have HHH : Hid (hh = (n : Int) / 4294967296 ∧ ll = (n : Int) % 4294967296) := ⟨hhh, hll⟩
  clear hhh hll
  have l26 : (A ++ List.replicate 18 (0 : Int)).length = 26 := by simp [al]
  have c8 := F0.cell 8 (by omega)
  have f8 := F0.free 8
  have F1 := F0.set 8 hh
  have c9 := F1.cell 9 (by simp [al])
  have f9 := F1.free 9
  have F2 := F1.set 9 ll
  have cn := D4.cellN
  have cn' : (w4.setCell ⟨W.heap.size + 1, 8, none⟩ (.int .u32 hh)).cell? ⟨g, 8, none⟩ = some (.int .i64 (n : Int)) := by
    rw [World.cell?_setCell_far _ _ _ _ (show W.heap.size + 1 ≠ g by omega)]; exact cn
  have e2 : ((A ++ List.replicate 18 0).set 8 hh).set 9 ll = (A ++ [hh, ll]) ++ List.replicate 16 0 := by
    rw [List.set_append_right _ _ (by omega), List.set_append_right _ _ (by omega), al, List.append_assoc]
    rfl
  rw [e2] at F2
  have B6 := (B4.other (b := W.heap.size + 1) (j := 8) (.int .u32 hh) (by omega)).other (b := W.heap.size + 1) (j := 9) (.int .u32 ll) (by omega)
  have hW6 : Below W.heap.size W ((w4.setCell ⟨W.heap.size + 1, 8, none⟩ (.int .u32 hh)).setCell ⟨W.heap.size + 1, 9, none⟩ (.int .u32 ll)) := (hW4.setCell (show W.heap.size ≤ W.heap.size + 1 by omega) _).setCell (show W.heap.size ≤ W.heap.size + 1 by omega) _
  have F2' : Hid (Blk ((w4.setCell ⟨W.heap.size + 1, 8, none⟩ (.int .u32 hh)).setCell ⟨W.heap.size + 1, 9, none⟩ (.int .u32 ll)) (W.heap.size + 1) .u32 59 ((A ++ [hh, ll]) ++ List.replicate 16 0)) := F2
  have B6' : Hid (Blk ((w4.setCell ⟨W.heap.size + 1, 8, none⟩ (.int .u32 hh)).setCell ⟨W.heap.size + 1, 9, none⟩ (.int .u32 ll)) W.heap.size .u32 59 Z) := B6
  have HW6 : Hid (Below W.heap.size W ((w4.setCell ⟨W.heap.size + 1, 8, none⟩ (.int .u32 hh)).setCell ⟨W.heap.size + 1, 9, none⟩ (.int .u32 ll))) := hW6
  generalize (A ++ List.replicate 18 0).getD 8 0 = y8 at *
  generalize ((A ++ List.replicate 18 0).set 8 hh).getD 9 0 = y9 at *
  clear F0 F1 F2 B4 hW4 B6 hW6 e2 l26 D4
  go_wp2_with (first | (go_at_call 167; refine (HIGH.out _).mono ?_; rintro en w' ⟨rfl, rfl⟩) | (go_at_call 168; refine (LOW.out _).mono ?_; rintro en w' ⟨rfl, rfl⟩))
  generalize (w4.setCell ⟨W.heap.size + 1, 8, none⟩ (.int .u32 hh)).setCell ⟨W.heap.size + 1, 9, none⟩ (.int .u32 ll) = w6 at *
  have hW6 := HW6.out
  have D6 := D.below hW6 hgl
  rw [ht] at hpl
  have WT : Hid (Calls Tryz.prog 169 #[.pointer (some ⟨g, 0, none⟩)] w6.drew fun e W' => e = .returned (.slice (some ⟨g, 9, none⟩) t t) ∧ w6.drew = W') := by
    have := waiting_any w6.drew g A n p (D6.below (Below.refl w6.heap.size w6).drew D6.lt)
    rwa [ht] at this
  obtain ⟨c, hc⟩ : ∃ c, c = p.map (Value.int .u32) := ⟨_, rfl⟩
  obtain ⟨z, hzz⟩ : ∃ z, z = ((A ++ [hh, ll]) ++ List.replicate 16 0).map (Value.int .u32) := ⟨_, rfl⟩
  have hcl : c.length = t := by rw [hc]; simp [hpl]
  have htl : t < 16 := by omega
  have hsp : splice z 10 c = (saveL A n p).map (Value.int .u32) := by
    rw [hzz, hc]
    unfold splice saveL
    rw [← HHH.out.1, ← HHH.out.2]
    rw [List.map_append (l₁ := A ++ [hh, ll]), List.map_append (l₁ := A ++ [hh, ll]), List.map_append (l₁ := p), List.map_replicate, List.map_replicate, List.length_map]
    have hl10 : ((A ++ [hh, ll]).map (Value.int .u32)).length = 10 := by simp [al]
    generalize (A ++ [hh, ll]).map (Value.int .u32) = Y at *
    rw [List.take_append_of_le_length (by omega), List.take_of_length_le (by omega), List.drop_append, List.drop_eq_nil_of_le (by omega), hl10, List.nil_append, List.drop_replicate, show 16 - (10 + p.length - 10) = 16 - p.length by omega]
  have H1 : Hid (w6.drew.heap[W.heap.size + 1]? = some (.cells z.toArray 59 (0, 0))) := by rw [hzz]; exact F2'.out
  have rP := D6.rowP
  have H2 : Hid (∀ j v, c[j]? = some v → w6.drew.cell? ((⟨g, 9, none⟩ : Addr).add j) = some v) := fun j v hv => by
    rw [hc] at hv
    rw [Addr.add_mid]
    exact (rP.drewN 1).range j v hv
  have H3 : Hid (∀ v ∈ c, v.oneCell' = true) := by rw [hc]; exact ints_oneCell _ _
  have H4 : Hid (10 + c.length ≤ z.length) := by rw [hzz, hcl]; show _ ≤ _; simp [al]; omega
  have H5 : Hid (Below (W.heap.size + 1) w6 w6.drew) := (Below.refl _ _).drew
  have H6 : Hid (c.length = Nat.min t 16) := by rw [hcl]; show t = min t 16; omega
  have HS : Hid (∀ w, w.heap[W.heap.size + 1]? = some (.cells (splice z 10 c).toArray 59 (0, 0)) → Blk w (W.heap.size + 1) .u32 59 (saveL A n p)) := fun w h => by
    rw [hsp] at h
    exact h
  have hMl : (saveL A n p).length = 26 := saveL_length A n p al (by omega)
  generalize hM : saveL A n p = M at *
  have HM : Hid (saveL A n p = M) := hM
  clear hM
  clear hc hzz hsp rP D6 hW6 D
  go_region_held3 (fun _ => True) (trivial) (first | (go_at_call 169; refine WT.out.mono ?_; rintro en w' ⟨rfl, rfl⟩) | (refine step_copy_splice (by rfl) (.tmp 24) (.tmp 26) 52 52 (by rfl) 29 Tryz.underlying52 size26 _ _ _ _ _ _ (by rfl) (by rfl) (W.heap.size + 1) 10 z 59 H1.out c H6.out (fun _ => ⟨rfl, _, rfl, H2.out⟩) H4.out H3.out (W.heap.size + 1) w6 H5.out (Nat.le_refl _) ?_; intro w7 hg7 hb7))
  have F7 : Hid (Blk w7 (W.heap.size + 1) .u32 59 M) := HS.out _ hg7.out
  have B7 : Hid (Blk w7 W.heap.size .u32 59 Z) := B6'.out.below hb7 (by omega)
  have HW7 : Hid (Below W.heap.size W w7) := HW6.out.trans (hb7.mono (by omega))
  clear hg7 hb7 HS H1 H2 H3 H4 H5 H6 F2' B6' HW6 WT
  go_wp2_with (first | (refine wpList_load_blk rfl 59 _ rfl (W.heap.size + 1) M rfl F7.out Tryz.underlying59 (by rw [hMl]; exact size40) ?_) | (refine wpList_store_blk rfl 59 _ _ rfl W.heap.size M rfl rfl B7.out (by rw [hMl]; exact size40) (by rw [hZl, hMl]) ?_))
  refine ret_cell rfl rfl W.heap.size M rfl (B7.out.setRow _) Tryz.underlying59 (by rw [hMl]; exact size40) ?_
  rw [HM.out]
  exact ⟨rfl, below_setRow HW7.out (Nat.le_refl _) _⟩
end Go.Proofs.YtllcbgdcepfdkaaGreatDoor.H
