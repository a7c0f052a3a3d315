import Derived.Test.YtbpdmkohihgnjaaGreatDoorP23
import Derived.Test.YtbpdmkohihgnjaaGreatDoorP01
import Derived.Test.YtbpdmkohihgnjaaGreatDoorP19
namespace Go.Proofs.YtbpdmkohihgnjaaGreatDoor
open Go.RowKit
set_option maxHeartbeats 4000000
set_option maxRecDepth 100000
theorem WdS.mono {m m' : Nat} {r : Nat ⊕ List L.T.Wd} (h : WdS m r) (hm : m ≤ m') : WdS m' r := by
  cases r with
  | inl x => trivial
  | inr ws => exact fun x hx => Nat.le_trans (h x hx) hm
theorem WdS.cons {m : Nat} {w : L.T.Wd} {r : Nat ⊕ List L.T.Wd} (hw : w.text.length ≤ m) (h : WdS m r) : WdS m (L.T.cons w r) := by
  cases r with
  | inl x => trivial
  | inr ws =>
    intro x hx
    rcases List.mem_cons.1 hx with rfl | hx
    · exact hw
    · exact h x hx
theorem rd_texts (l : List UInt8) (p : Nat) : WdS l.length (L.T.rd l p) := by
  induction h : l.length using Nat.strongRecOn generalizing l p with
  | _ n ih =>
    subst h
    cases l with
    | nil => rw [L.T.rd_nil]; intro x hx; cases hx
    | cons c t =>
      cases hg : L.T.isGap c with
      | true =>
        rw [L.T.rd_gap t p hg]
        exact (ih t.length (by simp) t (p + 1) rfl).mono (by simp)
      | false =>
        by_cases h35 : c.toNat = 35
        · rw [L.T.rd_hash t p hg h35]; intro x hx; cases hx
        · by_cases h34 : c.toNat = 34
          · have hu := L.T.unq_le t
            cases hq : L.T.unq t with
            | inl x => rw [L.T.rd_bad t p x hg h34 hq]; trivial
            | inr y =>
              obtain ⟨b, m⟩ := y
              rw [hq] at hu
              have hu1 : m ≤ t.length := hu.1
              have hu2 : b.length < m := hu.2
              cases hp : L.T.parted (t.drop m) with
              | false => rw [L.T.rd_joined t b p m hg h34 hq hp]; trivial
              | true =>
                rw [L.T.rd_quoted t b p m hg h34 hq hp]
                exact WdS.cons (by simp; omega) ((ih (t.drop m).length (by simp; omega) (t.drop m) (p + 1 + m) rfl).mono (by simp; omega))
          · rw [L.T.rd_plain t p hg h35 h34]
            have h1 := L.T.plainN_pos t hg
            exact WdS.cons (by simp; omega) ((ih ((c :: t).drop (L.T.plainN (c :: t))).length (by simp; omega) ((c :: t).drop (L.T.plainN (c :: t))) (p + L.T.plainN (c :: t)) rfl).mono (by simp))
theorem lines_each (l : List UInt8) : ∀ y ∈ L.T.lines l, y.length ≤ l.length := by
  intro y hy
  unfold L.T.lines at hy
  split at hy
  · exact L.cutL_each l y (List.dropLast_subset _ hy)
  · exact L.cutL_each l y hy
theorem lines_count (l : List UInt8) : (L.T.lines l).length ≤ l.length + 1 := by
  have := L.cutL_len l
  unfold L.T.lines
  split
  · rw [List.length_dropLast]; omega
  · exact this
def PoP (W w : World) (E : Nat → Addr) (e : Ending) (r : Rdr ⊕ Nat) : Prop :=
  match r with
  | .inl st => ∃ v, e = .returned (.tuple #[.agg #[v, .bool st.other], .nilIface]) ∧ w.ownsRow W.heap.size 63 10 v st.rules.length (rcs st.rules) ∧ Below W.heap.size W w
  | .inr k => e = .returned (.tuple #[.agg #[.slice none 0 0, .bool false], .iface 71 (.agg #[.int .i64 (k : Int), .iface 245 (.pointer (some (E 6)))])]) ∧ Below W.heap.size W w
theorem built36 : Tryz.prog.built 24 [] = some #[.slice none 0 0, .bool false] := by kernel_rfl
theorem built134 (x : Int) (a : Addr) : Tryz.prog.built 71 [(0, .int .i64 x), (1, .iface 245 (.pointer (some a)))] = some #[.int .i64 x, .iface 245 (.pointer (some a))] := by kernel_rfl
theorem range_two {w : World} {g : Nat} {t : TypeId} {a b c : Value} (h : Cel w g t [a, b, c]) : w.rangeAt g 0 [a, b] := fun j u hj => by
  have hj2 := (List.getElem?_eq_some_iff.1 hj).1
  rw [Nat.zero_add, h.cell]
  match j, hj2, hj with
  | 0, _, h => exact h
  | 1, _, h => exact h
structure PW (W w1 : World) (E : Nat → Addr) (gl : Nat) (ls : List (List UInt8)) : Prop where
  b : Below W.heap.size W w1
  lt : W.heap.size < w1.heap.size
  es : ErrS w1 E
  p : Cel w1 W.heap.size 24 [.slice none 0 0, .bool false]
  ls : L.StrsAt w1 (some ⟨gl, 0, none⟩) ls
theorem PW.line {W w1 w : World} {E : Nat → Addr} {gl : Nat} {ls : List (List UInt8)} (h : PW W w1 E gl ls) (hb : Below w1.heap.size w1 w) (k : Nat) (hk : k < ls.length) : w.cell? ⟨gl, k, none⟩ = some (.string ⟨(ls[k]).toArray⟩) := by
  rcases h.ls with h0 | ⟨b, o, e, hlt, hc⟩
  · rw [h0] at hk; simp at hk
  · simp only [Option.some.injEq, Addr.mk.injEq] at e
    obtain ⟨rfl, rfl, _⟩ := e
    have := hc k hk
    rw [Nat.zero_add] at this
    exact (hb.cell (p := ⟨gl, k, none⟩) hlt).trans this
theorem PW.box {W w1 w : World} {E : Nat → Addr} {gl : Nat} {ls : List (List UInt8)} (h : PW W w1 E gl ls) (hb : Below w1.heap.size w1 w) : Cel w W.heap.size 24 [.slice none 0 0, .bool false] := h.p.below hb h.lt
theorem PW.err {W w1 w : World} {E : Nat → Addr} {gl : Nat} {ls : List (List UInt8)} (h : PW W w1 E gl ls) (hb : Below w1.heap.size w1 w) : ErrS w E := h.es.on hb
theorem PW.all {W w1 w : World} {E : Nat → Addr} {gl : Nat} {ls : List (List UInt8)} (h : PW W w1 E gl ls) (hb : Below w1.heap.size w1 w) : Below W.heap.size W w := h.b.trans (hb.mono h.b.size)
theorem PoP.bad {W w : World} {E : Nat → Addr} {k : Nat} (h : Below W.heap.size W w) : PoP W w E (.returned (.tuple #[.agg #[.slice none 0 0, .bool false], .iface 71 (.agg #[.int .i64 (k : Int), .iface 245 (.pointer (some (E 6)))])])) (.inr k) := ⟨rfl, h⟩
theorem PoP.good {W w : World} {E : Nat → Addr} {st : Rdr} {v : Value} (h : Below W.heap.size W w) (ho : w.ownsRow W.heap.size 63 10 v st.rules.length (rcs st.rules)) : PoP W w E (.returned (.tuple #[.agg #[v, .bool st.other], .nilIface])) (.inl st) := ⟨v, rfl, ho, h⟩
theorem own_but {w w' : World} {B n z g : Nat} {e : TypeId} {v : Value} {xs : List Value} (h : w.ownsRow B e z v n xs) (hb : But g w w') (hg : v.ownBlock ≠ some g) : w'.ownsRow B e z v n xs :=
  ⟨h.1, h.2.imp id fun ⟨k, cap, cur, hv, hB, hk, r⟩ => ⟨k, cap, cur, hv, hB, (hb.block k (Array.getElem?_eq_some_iff.1 hk).1 (fun e => hg (by rw [hv]; exact congrArg some e))).trans hk, r⟩⟩
theorem wrap_om (x : Int) (h0 : 0 ≤ x) (h1 : x ≤ 1000000000000) : IntKind.i64.wrap x = x := by
  simp [IntKind.wrap, IntKind.signed, IntKind.bits]
  split <;> omega
def endE (n : Nat) : Rdr ⊕ Nat → Rdr ⊕ Nat
  | .inl st => if st.ended = true then .inl st else .inr (n + 1)
  | .inr k => .inr k
theorem endE_yes {n : Nat} {st : Rdr} (h : st.ended = true) : endE n (.inl st) = .inl st := by simp [endE, h]
theorem endE_no {n : Nat} {st : Rdr} (h : st.ended = false) : endE n (.inl st) = .inr (n + 1) := by simp [endE, h]
attribute [-simp] Tryz.isAgg24 Tryz.zeroValue24
theorem policyOf_any (W : World) (E : Nat → Addr) (hE : ErrS W E) (m : Int) (hm : W.cell? ⟨8, 0, none⟩ = some (.int .i64 m)) (s : ByteArray) (hs : s.size ≤ 65536) :
    Calls Tryz.prog 13 #[.string s] W fun e W' => PoP W W' E e (endE (L.T.lines s.data.toList).length (foldP z0 (L.T.lines s.data.toList) 0)) := by
  have hz36 : ∀ w, (zeroValue 24).run Tryz.prog w = .ok (.agg #[.slice none 0 0, .bool false]) w := fun w => by rw [Tryz.zeroValue24]
  obtain ⟨X, hX⟩ : ∃ X, X = W.alloc (Obj.cells #[.slice none 0 0, .bool false] 24) := ⟨_, rfl⟩
  have HB : Below W.heap.size W X := by rw [hX]; exact below_one W _
  have hsz := hE.sz
  have HLi := hid (L.lines_any X s m hs ((HB.cell (p := ⟨8, 0, none⟩) (by show 8 < W.heap.size; omega)).trans hm))
  have HX : Hid (Below W.heap.size W X ∧ ErrS X E ∧ Cel X W.heap.size 24 [.slice none 0 0, .bool false] ∧ W.heap.size < X.heap.size) := hid ⟨HB, hE.on HB, by rw [hX]; exact heap_alloc_new _ _, by rw [hX]; simp⟩
  have hle : ∀ y ∈ L.T.lines s.data.toList, y.length ≤ 1000000000 := fun y hy => by
    have := lines_each _ y hy
    rw [lenD] at this
    omega
  have hcn := lines_count s.data.toList
  rw [lenD] at hcn
  have hmaxn : (L.T.lines s.data.toList).length ≤ 65537 := by omega
  have HE := hid hE
  clear hE hm hs HB hsz hcn
  unfold L.LiPost at HLi
  generalize L.T.lines s.data.toList = ls at *
  have HLe := hid hle
  clear hle
  obtain ⟨R, hR⟩ : ∃ R, R = foldP z0 ls 0 := ⟨_, rfl⟩
  rw [← hR]
  have HR0 := hid hR
  clear hR
  generalize hn : ls.length = n at *
  go_enter Tryz.func13, Tryz.ntmps13
  go_upto_region 1 with fail
  rw [← hX]
  clear hX
  go_wp2_with fail
  refine HLi.out.mono ?_
  rintro e w1 ⟨gl, c, rfl, hstr, hb⟩
  have HP : Hid (PW W w1 E gl ls) := hid ⟨below_on HX.out.1 hb, Nat.lt_of_lt_of_le HX.out.2.2.2 hb.size, HX.out.2.1.on hb, HX.out.2.2.1.on hb, hstr⟩
  clear hstr hb HX HLi
  go_upto_region 5 with fail
  have Y0 : Hid (RdS w1 (w1.alloc (.cells #[.slice none 0 0, .bool false, .bool false] 68)) w1.heap.size z0 (.slice none 0 0)) := hid (RdS.start w1)
  generalize World.alloc _ _ = w2 at *
  generalize w1.heap.size = g6 at *
  have hb36 : ∀ w, (Instr.build 24 #[]).run Tryz.prog w = .ok (.agg #[.slice none 0 0, .bool false]) w := fun w => run_build w 24 #[] _ built36
  have hb134 : ∀ (x : Int) (a : Addr) w, (Instr.build 71 #[(0, .int .i64 x), (1, .iface 245 (.pointer (some a)))]).run Tryz.prog w = .ok (.agg #[.int .i64 x, .iface 245 (.pointer (some a))]) w := fun x a w => run_build w 71 _ _ (built134 x a)
  go_wp2_with fail
  go_loopw [21] (fun i wr => ∃ (k : Nat) (st : Rdr) (v : Value), k ≤ n ∧ i = .int .i64 (k : Int) ∧ RdS w1 wr g6 st v ∧ R = foldP st (ls.drop k) k) (fun i _ => n - (intOf i).toNat)
  case atStart => exact ⟨0, z0, _, Nat.zero_le _, rfl, Y0.out, HR0.out⟩
  case round =>
    clear Y0 HR0
    obtain ⟨k, st, v, hk, rfl, hs, hf⟩ := hrel
    have Y1 := hid hs
    have HF := hid hf
    clear hs hf
    by_cases hlt : k < n
    · have hkl : k < ls.length := by omega
      have hdr : ls.drop k = ls[k] :: ls.drop (k + 1) := List.drop_eq_getElem_cons hkl
      have cl := HP.out.line Y1.out.bl k hkl
      have hx : (⟨(ls[k]).toArray⟩ : ByteArray).size ≤ 1000000000 := by rw [sizeL]; exact HLe.out _ (List.getElem_mem _)
      generalize ls[k] = x at *
      have HRL := hid (fun (w : World) (hE : ErrS w E) (H : RdS w1 w g6 st v) => readLine_any w1 w E g6 st v hE H ⟨x.toArray⟩ hx ((rd_texts x 0).mono (by rw [sizeL] at hx; omega)))
      rw [hdr] at HF
      have HN := hid (show k + 1 ≤ n by omega)
      have i3 : (k : Int) < (n : Int) := by omega
      have i4 : (k : Int) ≤ 65537 := by omega
      clear hx hdr hkl
      cases hst : stepP st x with
      | none =>
        have HR : Hid (R = .inr (k + 1)) := hid (by rw [HF.out]; simp only [foldP, hst])
        have HRL2 : Hid (∀ (w : World) (hE : ErrS w E) (H : RdS w1 w g6 st v), Calls Tryz.prog 23 #[.pointer (some ⟨g6, 0, none⟩), .string ⟨x.toArray⟩] w fun e w' => e = .returned (.iface 245 (.pointer (some (E 6)))) ∧ Below w1.heap.size w1 w') := hid fun w hE H => (HRL.out w hE H).mono fun e w' h => by
          have h2 : RdP w1 w' g6 E e (stepP st x) := h
          rw [hst] at h2
          exact h2
        clear HRL HF hst
        go_upto_region 9 with (first | (go_at_call 23; refine (HRL2.out _ (HP.out.err Y1.out.bl) Y1.out).mono ?_; rintro e w3 ⟨rfl, hb⟩; have B3 := hid hb; clear hb))
        clear Y1 cl HRL2
        go_wp2_with (first | (refine wpList_store_st rfl 24 _ _ rfl W.heap.size [.slice none 0 0, .bool false] rfl rfl (HP.out.box B3.out) size36 rfl rfl ?_; intro w4 hc4 hb4 hs4; have Y4 : Hid (Cel w4 W.heap.size 24 [.slice none 0 0, .bool false] ∧ Below W.heap.size W w4) := hid ⟨hc4, (HP.out.all B3.out).trans (hb4.below (Nat.le_refl _) (HP.out.all B3.out).size)⟩; clear hc4 hb4 hs4))
        refine ret_q2 rfl rfl W.heap.size [.slice none 0 0, .bool false] rfl Y4.out.1 Tryz.underlying24 rfl size36 ?_
        rw [HR.out]
        show PoP _ _ _ _ (.inr (k + 1))
        exact PoP.bad Y4.out.2
      | some s2 =>
        have HF2 : Hid (R = foldP s2 (ls.drop (k + 1)) (k + 1)) := hid (by rw [HF.out]; simp only [foldP, hst])
        have HRL2 : Hid (∀ (w : World) (hE : ErrS w E) (H : RdS w1 w g6 st v), Calls Tryz.prog 23 #[.pointer (some ⟨g6, 0, none⟩), .string ⟨x.toArray⟩] w fun e w' => e = .returned .nilIface ∧ ∃ v2, RdS w1 w' g6 s2 v2) := hid fun w hE H => (HRL.out w hE H).mono fun e w' h => by
          have h2 : RdP w1 w' g6 E e (stepP st x) := h
          rw [hst] at h2
          exact h2
        clear HRL HF hst
        go_upto_region 9 with (first | (go_at_call 23; refine (HRL2.out _ (HP.out.err Y1.out.bl) Y1.out).mono ?_; rintro e w3 ⟨rfl, v2, hb⟩; have Y3 := hid hb; clear hb))
        clear Y1 cl HRL2
        go_wp2_with fail
        go_roundw
        case rel => exact ⟨k + 1, s2, v2, HN.out, by go_num, Y3.out, HF2.out⟩
        case measure => have := HN.out; simp [intOf]; omega
    · obtain rfl : k = n := by omega
      have HR : Hid (R = .inl st) := hid (by rw [HF.out, List.drop_of_length_le (by omega)]; rfl)
      cases hen : st.ended with
      | true =>
        obtain ⟨ao, cp, rfl⟩ := Y1.out.form
        have c2 : wr.cell? ⟨g6, 2, none⟩ = some (.bool true) := by have := Y1.out.cel.cell 2; rw [hen] at this; exact this
        have HAp := hid (fun (w : World) (hc : Cel w W.heap.size 24 [.slice none 0 0, .bool false]) (ho : w.ownsRow w1.heap.size 63 10 (.slice ao st.rules.length cp) st.rules.length (rcs st.rules)) => own_ap ho hc (by decide))
        have HEN := hid (endE_yes (n := k) hen)
        clear HF hen hlt hk
        go_wp2_with (first | (refine wpList_load_mid rfl 24 _ rfl g6 0 rfl [.slice ao st.rules.length cp, .bool st.other] _ (range_two Y1.out.cel) Tryz.underlying24 rfl size36 ?_) | (refine wpList_store_st rfl 24 _ _ rfl W.heap.size [.slice ao st.rules.length cp, .bool st.other] rfl rfl (HP.out.box Y1.out.bl) size36 rfl rfl ?_; intro w4 hc4 hb4 hs4; have Y4 : Hid (Cel w4 W.heap.size 24 [.slice ao st.rules.length cp, .bool st.other] ∧ Below W.heap.size W w4 ∧ w4.ownsRow W.heap.size 63 10 (.slice ao st.rules.length cp) st.rules.length (rcs st.rules)) := hid ⟨hc4, (HP.out.all Y1.out.bl).trans (hb4.below (Nat.le_refl _) (HP.out.all Y1.out.bl).size), L.own_mono (own_but Y1.out.own hb4 (HAp.out _ (HP.out.box Y1.out.bl) Y1.out.own)) (Nat.le_of_lt HP.out.lt)⟩; clear hc4 hb4 hs4))
        refine ret_q2 rfl rfl W.heap.size [.slice ao st.rules.length cp, .bool st.other] rfl Y4.out.1 Tryz.underlying24 rfl size36 ?_
        rw [HR.out, HEN.out]
        exact PoP.good Y4.out.2.1 Y4.out.2.2
      | false =>
        have c2 : wr.cell? ⟨g6, 2, none⟩ = some (.bool false) := by have := Y1.out.cel.cell 2; rw [hen] at this; exact this
        have HEN := hid (endE_no (n := k) hen)
        have i5 : (k : Int) ≤ 65537 := by omega
        clear HF hen hlt hk
        go_upto_region 13 with fail
        have Y2 : Hid (Cel wr.drew W.heap.size 24 [.slice none 0 0, .bool false] ∧ Below W.heap.size W wr.drew) := hid ⟨HP.out.box Y1.out.bl.drew, (HP.out.all Y1.out.bl).drew⟩
        clear Y1 c2 HP
        refine wp_region_held_drew (S := fun w => Cel w W.heap.size 24 [.slice none 0 0, .bool false] ∧ Below W.heap.size W w) (by kernel_rfl) Y2.out (fun hHeld => ?_)
        generalize World.drew _ = wz at *
        refine tk 0 ⟨some 40, .build 24 #[], 24, "read.go:27", #[], none⟩ (.agg #[.slice none 0 0, .bool false]) ?_
        simp only [Act.put, List.setIfInBounds_toArray, List.set_cons_zero, List.set_cons_succ]
        refine tk 1 ⟨some 41, .move (.tmp 4), 52, "read.go:27", #[], none⟩ (.slice (some ⟨gl, 0, none⟩) k c) ?_
        simp only [Act.put, List.setIfInBounds_toArray, List.set_cons_zero, List.set_cons_succ]
        refine tk 2 ⟨some 42, .call { callee := .builtin .len, args := #[.tmp 41], argTypes := #[52] }, 3, "read.go:27", #[⟨1, .data⟩], none⟩ (.int .i64 (k : Int)) ?_
        simp only [Act.put, List.setIfInBounds_toArray, List.set_cons_zero, List.set_cons_succ]
        refine tk 3 ⟨some 43, .binOp .add 3 (.tmp 42) (.const (.int .i64 1)) 3, 3, "read.go:27", #[⟨2, .data⟩], none⟩ (.int .i64 ((k : Int) + 1)) ?_ (hy := Or.inl ⟨by rfl, by intro w hSw; have hw := wrap_om ((k : Int) + 1) (by omega) (by omega); go_simp⟩)
        simp only [Act.put, List.setIfInBounds_toArray, List.set_cons_zero, List.set_cons_succ]
        refine tk 4 ⟨some 44, .load 47 (.global 1), 47, "read.go:27", #[], none⟩ (.iface 245 (.pointer (some (E 6)))) ?_ (hy := Or.inl ⟨by rfl, by intro w hSw; have hc := (HE.out.on hSw.2).k6; go_simp⟩)
        simp only [Act.put, List.setIfInBounds_toArray, List.set_cons_zero, List.set_cons_succ]
        refine tk 5 ⟨some 45, .build 71 #[(0, .tmp 43), (1, .tmp 44)], 71, "read.go:27", #[⟨3, .data⟩, ⟨4, .data⟩], none⟩ (.agg #[.int .i64 ((k : Int) + 1), .iface 245 (.pointer (some (E 6)))]) ?_
        simp only [Act.put, List.setIfInBounds_toArray, List.set_cons_zero, List.set_cons_succ]
        refine tk 6 ⟨some 46, .makeInterface 71 (.tmp 45), 47, "read.go:27", #[⟨5, .data⟩, { on := 7, ground := .gcOnly Departure.lateStores }], none⟩ (.iface 71 (.agg #[.int .i64 ((k : Int) + 1), .iface 245 (.pointer (some (E 6)))])) ?_
        simp only [Act.put, List.setIfInBounds_toArray, List.set_cons_zero, List.set_cons_succ]
        refine wpAnyH_ready (rs := [7]) (by kernel_rfl) (by simp) (AllReadyH.cons (o := ⟨none, .store 24 (.tmp 2) (.tmp 40), 0, "read.go:27", #[⟨0, .data⟩, ⟨0, .phase⟩, { on := 1, ground := .textOnly Departure.lateStores }, { on := 2, ground := .textOnly Departure.lateStoresUnsure }, { on := 3, ground := .textOnly Departure.lateStores }, { on := 4, ground := .textOnly Departure.lateStores }, { on := 5, ground := .textOnly Departure.lateStores }, { on := 6, ground := .textOnly Departure.lateStores }], none⟩) rfl (fun KQ hK => ?_) AllReadyH.nil)
        rw [if_pos (by rfl)]
        refine wp_store_st 24 _ _ rfl W.heap.size [.slice none 0 0, .bool false] rfl rfl Y2.out.1 size36 rfl rfl ?_
        intro w5 hc hb hs
        have Y3 : Hid (Cel w5 W.heap.size 24 [.slice none 0 0, .bool false] ∧ Below W.heap.size W w5) := hid ⟨hc, Y2.out.2.trans (hb.below (Nat.le_refl _) Y2.out.2.size)⟩
        clear hc hb hs Y2
        refine hK.out _ _ Y3.out (fun hHeld => ?_)
        clear hK KQ
        try simp only [Act.put]
        refine wpAnyH_ready (rs := [8]) (by kernel_rfl) (by simp) (AllReadyH.cons (o := ⟨some 3, .assign (.tmp 46), 47, "read.go:27", #[⟨6, .data⟩, ⟨7, .chain⟩, ⟨0, .phase⟩, ⟨1, .phase⟩, ⟨2, .phase⟩, ⟨3, .phase⟩, ⟨4, .phase⟩, ⟨5, .phase⟩, ⟨6, .phase⟩, ⟨7, .phase⟩], none⟩) rfl (fun KQ hK => ?_) AllReadyH.nil)
        go_simp
        refine hK.out _ _ Y3.out (fun hHeld => ?_)
        clear hK KQ
        try simp only [Act.put, List.setIfInBounds_toArray, List.set_cons_zero, List.set_cons_succ]
        refine wpAnyH_done (by kernel_rfl) ?_ _
        go_wp2_with fail
        refine ret_q2 rfl rfl W.heap.size [.slice none 0 0, .bool false] rfl Y3.out.1 Tryz.underlying24 rfl size36 ?_
        rw [HR.out, HEN.out]
        exact (PoP.bad (k := k + 1) Y3.out.2)
theorem policyOf_long (W : World) (E : Nat → Addr) (hE : ErrS W E) (s : ByteArray) (hs : 65536 < s.size) :
    Calls Tryz.prog 13 #[.string s] W fun e W' => e = .returned (.tuple #[.agg #[.slice none 0 0, .bool false], .iface 245 (.pointer (some (E 4)))]) ∧ Below W.heap.size W W' := by
  have hz36 : ∀ w, (zeroValue 24).run Tryz.prog w = .ok (.agg #[.slice none 0 0, .bool false]) w := fun w => by rw [Tryz.zeroValue24]
  have hb36 : ∀ w, (Instr.build 24 #[]).run Tryz.prog w = .ok (.agg #[.slice none 0 0, .bool false]) w := fun w => run_build w 24 #[] _ built36
  obtain ⟨X, hX⟩ : ∃ X, X = W.alloc (Obj.cells #[.slice none 0 0, .bool false] 24) := ⟨_, rfl⟩
  have HB : Below W.heap.size W X := by rw [hX]; exact below_one W _
  have HLi := hid (L.lines_long X s hs)
  have Y2 : Hid (Cel X.drew W.heap.size 24 [.slice none 0 0, .bool false] ∧ Below W.heap.size W X.drew) := hid ⟨Cel.on (by rw [hX]; exact heap_alloc_new _ _) (Below.refl _ _).drew, HB.drew⟩
  have HE := hid hE
  clear hE hs HB
  go_enter Tryz.func13, Tryz.ntmps13
  go_upto_region 1 with fail
  rw [← hX]
  clear hX
  go_upto_region 3 with (first | (go_at_call 22; refine HLi.out.mono ?_; rintro e w1 ⟨rfl, hw⟩; subst w1))
  clear HLi
  refine wp_region_held_drew (S := fun w => Cel w W.heap.size 24 [.slice none 0 0, .bool false] ∧ Below W.heap.size W w) (by kernel_rfl) Y2.out (fun hHeld => ?_)
  generalize hwz : World.drew _ = wz at *
  clear hwz
  refine tk 0 ⟨some 17, .build 24 #[], 24, "read.go:18", #[], none⟩ (.agg #[.slice none 0 0, .bool false]) ?_
  simp only [Act.put, List.setIfInBounds_toArray, List.set_cons_zero, List.set_cons_succ]
  refine tk 1 ⟨some 18, .load 47 (.global 0), 47, "read.go:18", #[{ on := 2, ground := .gcOnly Departure.lateStores }], none⟩ (.iface 245 (.pointer (some (E 4)))) ?_ (hy := Or.inl ⟨by rfl, by intro w hSw; have hc := (HE.out.on hSw.2).k4; go_simp⟩)
  simp only [Act.put, List.setIfInBounds_toArray, List.set_cons_zero, List.set_cons_succ]
  refine wpAnyH_ready (rs := [2]) (by kernel_rfl) (by simp) (AllReadyH.cons (o := ⟨none, .store 24 (.tmp 2) (.tmp 17), 0, "read.go:18", #[⟨0, .data⟩, ⟨0, .phase⟩, { on := 1, ground := .textOnly Departure.lateStores }], none⟩) rfl (fun KQ hK => ?_) AllReadyH.nil)
  rw [if_pos (by rfl)]
  refine wp_store_st 24 _ _ rfl W.heap.size [.slice none 0 0, .bool false] rfl rfl Y2.out.1 size36 rfl rfl ?_
  intro w5 hc hb hs
  have Y3 : Hid (Cel w5 W.heap.size 24 [.slice none 0 0, .bool false] ∧ Below W.heap.size W w5) := hid ⟨hc, Y2.out.2.trans (hb.below (Nat.le_refl _) Y2.out.2.size)⟩
  clear hc hb hs Y2
  refine hK.out _ _ Y3.out (fun hHeld => ?_)
  clear hK KQ
  try simp only [Act.put]
  refine wpAnyH_ready (rs := [3]) (by kernel_rfl) (by simp) (AllReadyH.cons (o := ⟨some 3, .assign (.tmp 18), 47, "read.go:18", #[⟨1, .data⟩, ⟨2, .chain⟩, ⟨0, .phase⟩, ⟨1, .phase⟩, ⟨2, .phase⟩], none⟩) rfl (fun KQ hK => ?_) AllReadyH.nil)
  go_simp
  refine hK.out _ _ Y3.out (fun hHeld => ?_)
  clear hK KQ
  try simp only [Act.put, List.setIfInBounds_toArray, List.set_cons_zero, List.set_cons_succ]
  refine wpAnyH_done (by kernel_rfl) ?_ _
  go_wp2_with fail
  refine ret_q2 rfl rfl W.heap.size [.slice none 0 0, .bool false] rfl Y3.out.1 Tryz.underlying24 rfl size36 ?_
  exact ⟨rfl, Y3.out.2⟩
end Go.Proofs.YtbpdmkohihgnjaaGreatDoor
