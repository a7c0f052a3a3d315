import Derived.Test.YtbjinmlelchmgaaGreatDoorP28
import Derived.Test.YtbjinmlelchmgaaGreatDoorP01
namespace Go.Proofs.YtbjinmlelchmgaaGreatDoor
open Go.RowKit
set_option maxRecDepth 100000
set_option maxHeartbeats 8000000
theorem info28 : (Tryz.prog.info? 28).map (fun i => (i.zero, i.size, i.bytes)) = some (some (.agg #[.slice none 0 0, .slice none 0 0, .slice none 0 0, .slice none 0 0, .slice none 0 0, .slice none 0 0, .int .u8 0]), 7, 152) := by kernel_rfl
theorem size28 : (Tryz.prog.info? 28).map (·.size) = some 7 := by kernel_rfl
theorem size61 : (Tryz.prog.info? 61).map (·.size) = some 3 := by kernel_rfl
def mks (m : Nat) : ByteArray := ⟨#[109, UInt8.ofNat m]⟩
def mkw (m : Nat) : List Value := [.string (mks m), .bool false, .int .i64 (m : Int)]
def mkb (m : Nat) : List Value := [.int .u8 (m : Int)]
theorem conv_two (w : World) (m : Nat) (hm : m < 256) : (convert 26 9 (.slice (some ⟨w.heap.size, 0, none⟩) 2 2)).run Tryz.prog (w.alloc (.cells #[.int .u8 109, .int .u8 (m : Int)] 5)) = .ok (.string (mks m)) (w.alloc (.cells #[.int .u8 109, .int .u8 (m : Int)] 5)) := by
  have e : (UInt8.ofNat m).toNat = m := by simp; omega
  exact run_convert_bytes_back (P := Tryz.prog) _ 26 9 5 ⟨w.heap.size, 0, none⟩ 2 [109, UInt8.ofNat m] Tryz.underlying26 Tryz.underlying5 Tryz.underlying9 (fun j hj => by
    have hj2 : j < 2 := hj
    rw [addr_add, Nat.zero_add, World.cell?_alloc_new]
    match j, hj2 with
    | 0, _ => rfl
    | 1, _ => show some (Value.int .u8 (m : Int)) = some (.int .u8 ((UInt8.ofNat m).toNat : Int)); rw [e])
theorem hold_any (W w : World) (a1 a2 a3 : Option Addr) (n1 n2 n3 c1 c2 c3 m : Nat) (x1 x2 x3 : List Value) (R : List Rr) (H : List Hk) (hm : m < 256)
    (h : KS W w (⟨9, 1, .slice a1 n1 c1, n1, x1⟩ :: ⟨61, 3, .slice a2 n2 c2, n2, x2⟩ :: ⟨5, 1, .slice a3 n3 c3, n3, x3⟩ :: R) H) (h1 : n1 ≤ 10000000) (h2 : n2 ≤ 10000000) (h3 : n3 ≤ 10000000) :
    Calls Tryz.prog 8 #[.slice a1 n1 c1, .slice a2 n2 c2, .slice a3 n3 c3, .int .u8 (m : Int)] w fun e w' => ∃ v1 v2 v3, e = .returned (.agg #[.slice a1 n1 c1, v1, .slice a2 n2 c2, v2, .slice a3 n3 c3, v3, .int .u8 (m : Int)]) ∧ KS W w' R (⟨9, 1, .slice a1 n1 c1, v1, n1, n1 + 1, [.string (mks m)]⟩ :: ⟨61, 3, .slice a2 n2 c2, v2, n2, n2 + 1, mkw m⟩ :: ⟨5, 1, .slice a3 n3 c3, v3, n3, n3 + 1, mkb m⟩ :: H) := by
  have q1 : (n1 : Int) ≤ 10000000 := by omega
  have q2 : (n2 : Int) ≤ 10000000 := by omega
  have q3 : (n3 : Int) ≤ 10000000 := by omega
  have HB0 := hid (h.box 28 [.slice none 0 0, .slice none 0 0, .slice none 0 0, .slice none 0 0, .slice none 0 0, .slice none 0 0, .int .u8 0])
  have HM := hid hm
  have HX1 : Hid (x1.length = n1) := hid (by have := (h.mem (i := 0) rfl).1; simpa using this)
  have HX2 : Hid (x2.length = n2 * 3) := hid (h.mem (i := 1) rfl).1
  have HX3 : Hid (x3.length = n3) := hid (by have := (h.mem (i := 2) rfl).1; simpa using this)
  clear h
  have HB3 := hid ((HB0.out.on (below_one _ (.cells #[.int .u8 109, .int .u8 (m : Int)] 5))).box 61 (mkw m))
  have hcv := conv_two (w.alloc (Obj.cells #[Value.slice none 0 0, Value.slice none 0 0, Value.slice none 0 0, Value.slice none 0 0, Value.slice none 0 0, Value.slice none 0 0, .int .u8 0] 28)) m hm
  rw [World.size_alloc] at hcv
  rw [World.size_alloc, World.size_alloc] at HB3
  clear HB0
  go_enter Tryz.func8, Tryz.ntmps8
  go_upto_region 3 with fail
  clear hcv
  unfold mkw at HB3
  generalize (World.alloc (World.alloc (World.alloc w _) _) _) = w3 at *
  generalize hg6 : w.heap.size + 1 + 1 = g6 at *
  generalize hg8 : w.heap.size = g8 at *
  clear hg6 hg8
  generalize hs : mks m = s at *
  go_wp2_with fail
  go_loopw [11] (fun i wr => ∃ j : Nat, j ≤ n1 ∧ i = .int .i64 (j : Int) ∧ Hid (KS W wr (bx 61 g6 [.string s, .bool false, .int .i64 (m : Int)] :: bx 28 g8 [.slice none 0 0, .slice none 0 0, .slice none 0 0, .slice none 0 0, .slice none 0 0, .slice none 0 0, .int .u8 0] :: ⟨9, 1, .slice a1 n1 c1, n1, fl1 (.string s) x1 j⟩ :: ⟨61, 3, .slice a2 n2 c2, n2, x2⟩ :: ⟨5, 1, .slice a3 n3 c3, n3, x3⟩ :: R) H)) (fun i _ => n1 - (intOf i).toNat)
  case atStart => exact ⟨0, Nat.zero_le _, rfl, by rw [fl1_0]; exact HB3⟩
  case round =>
    clear HB3
    obtain ⟨j, hj, rfl, HB⟩ := hrel
    by_cases hlt : j < n1
    · have q4 : (j : Int) < (n1 : Int) := by omega
      obtain ⟨g, rfl⟩ := own_some (HB.out.mem (i := 2) rfl) (by show 0 < n1; omega)
      have f1 := own_free (HB.out.mem (i := 2) rfl) j
      have c1' := own_rng (HB.out.mem (i := 2) rfl) j _ (List.getElem?_eq_getElem (by show j < (fl1 (.string s) x1 j).length; rw [fl1_len _ _ _ (by rw [HX1.out]; exact hj), HX1.out]; exact hlt))
      rw [Nat.zero_add] at c1'
      have HB2 := hid (HB.out.set1 2 rfl j (.string s))
      simp only [List.set_cons_succ, List.set_cons_zero] at HB2
      rw [fl1_set _ _ _ (by rw [HX1.out]; exact hlt)] at HB2
      generalize hy : (fl1 (.string s) x1 j)[j]'_ = y at *
      clear HB hy
      go_wp2_with fail
      go_roundw
      case measure => simp [intOf] <;> omega
      case rel => exact ⟨j + 1, by omega, by simp, HB2⟩
    · have hjn : n1 = j := by omega
      have q5 : (n1 : Int) ≤ (j : Int) := by omega
      have HC : Hid (KS W wr (bx 61 g6 [.string s, .bool false, .int .i64 (m : Int)] :: bx 28 g8 [.slice none 0 0, .slice none 0 0, .slice none 0 0, .slice none 0 0, .slice none 0 0, .slice none 0 0, .int .u8 0] :: ⟨9, 1, .slice a1 n1 c1, n1, rp n1 [.string s]⟩ :: ⟨61, 3, .slice a2 n2 c2, n2, x2⟩ :: ⟨5, 1, .slice a3 n3 c3, n3, x3⟩ :: R) H) := hid (by have := HB.out; rw [← hjn, fl1_all _ _ _ HX1.out] at this; exact this)
      clear HB hjn
      go_wp2_with fail
      go_loopw [12] (fun i wr => ∃ j : Nat, j ≤ n2 ∧ i = .int .i64 (j : Int) ∧ Hid (KS W wr (bx 61 g6 [.string s, .bool false, .int .i64 (m : Int)] :: bx 28 g8 [.slice none 0 0, .slice none 0 0, .slice none 0 0, .slice none 0 0, .slice none 0 0, .slice none 0 0, .int .u8 0] :: ⟨9, 1, .slice a1 n1 c1, n1, rp n1 [.string s]⟩ :: ⟨61, 3, .slice a2 n2 c2, n2, fls [.string s, .bool false, .int .i64 (m : Int)] 3 x2 j⟩ :: ⟨5, 1, .slice a3 n3 c3, n3, x3⟩ :: R) H)) (fun i _ => n2 - (intOf i).toNat)
      case atStart => exact ⟨0, Nat.zero_le _, rfl, by rw [fls_0]; exact HC⟩
      case round =>
        clear HC
        obtain ⟨j, hj, rfl, HB⟩ := hrel
        by_cases hlt : j < n2
        · have q6 : (j : Int) < (n2 : Int) := by omega
          obtain ⟨g, rfl⟩ := own_some (HB.out.mem (i := 3) rfl) (by show 0 < n2; omega)
          have k0 := (HB.out.cel 0 rfl).cell 0
          have k1 := (HB.out.cel 0 rfl).cell 1
          have k2 := (HB.out.cel 0 rfl).cell 2
          simp only [List.getElem?_cons_zero, List.getElem?_cons_succ] at k0 k1 k2
          go_wp2_with (refine wpList_store_g rfl _ _ rfl size61 HB.out 3 rfl j hlt [.string s, .bool false, .int .i64 (m : Int)] rfl (by simp [Value.oneCell']) rfl rfl ?_; intro w8 h8; have HB2 := hid h8; clear h8 HB)
          simp only [List.set_cons_succ, List.set_cons_zero] at HB2
          rw [fls_succ [.string s, .bool false, .int .i64 (m : Int)] 3 x2 rfl j] at HB2
          go_roundw
          case measure => simp [intOf] <;> omega
          case rel => exact ⟨j + 1, by omega, by simp, HB2⟩
        · have hjn : n2 = j := by omega
          have q7 : (n2 : Int) ≤ (j : Int) := by omega
          have HD : Hid (KS W wr (bx 61 g6 [.string s, .bool false, .int .i64 (m : Int)] :: bx 28 g8 [.slice none 0 0, .slice none 0 0, .slice none 0 0, .slice none 0 0, .slice none 0 0, .slice none 0 0, .int .u8 0] :: ⟨9, 1, .slice a1 n1 c1, n1, rp n1 [.string s]⟩ :: ⟨61, 3, .slice a2 n2 c2, n2, rp n2 [.string s, .bool false, .int .i64 (m : Int)]⟩ :: ⟨5, 1, .slice a3 n3 c3, n3, x3⟩ :: R) H) := hid (by have := HB.out; rw [← hjn, fls_all _ _ _ _ HX2.out] at this; exact this)
          clear HB hjn
          go_wp2_with fail
          go_loopw [13] (fun i wr => ∃ j : Nat, j ≤ n3 ∧ i = .int .i64 (j : Int) ∧ Hid (KS W wr (bx 61 g6 [.string s, .bool false, .int .i64 (m : Int)] :: bx 28 g8 [.slice none 0 0, .slice none 0 0, .slice none 0 0, .slice none 0 0, .slice none 0 0, .slice none 0 0, .int .u8 0] :: ⟨9, 1, .slice a1 n1 c1, n1, rp n1 [.string s]⟩ :: ⟨61, 3, .slice a2 n2 c2, n2, rp n2 [.string s, .bool false, .int .i64 (m : Int)]⟩ :: ⟨5, 1, .slice a3 n3 c3, n3, fl1 (.int .u8 (m : Int)) x3 j⟩ :: R) H)) (fun i _ => n3 - (intOf i).toNat)
          case atStart => exact ⟨0, Nat.zero_le _, rfl, by rw [fl1_0]; exact HD⟩
          case round =>
            clear HD
            obtain ⟨j, hj, rfl, HB⟩ := hrel
            by_cases hlt : j < n3
            · have q8 : (j : Int) < (n3 : Int) := by omega
              obtain ⟨g, rfl⟩ := own_some (HB.out.mem (i := 4) rfl) (by show 0 < n3; omega)
              have f1 := own_free (HB.out.mem (i := 4) rfl) j
              have c1' := own_rng (HB.out.mem (i := 4) rfl) j _ (List.getElem?_eq_getElem (by show j < (fl1 (.int .u8 (m : Int)) x3 j).length; rw [fl1_len _ _ _ (by rw [HX3.out]; exact hj), HX3.out]; exact hlt))
              rw [Nat.zero_add] at c1'
              have HB2 := hid (HB.out.set1 4 rfl j (.int .u8 (m : Int)))
              simp only [List.set_cons_succ, List.set_cons_zero] at HB2
              rw [fl1_set _ _ _ (by rw [HX3.out]; exact hlt)] at HB2
              generalize hy : (fl1 (.int .u8 (m : Int)) x3 j)[j]'_ = y at *
              clear HB hy
              go_wp2_with fail
              go_roundw
              case measure => simp [intOf] <;> omega
              case rel => exact ⟨j + 1, by omega, by simp, HB2⟩
            · have hjn : n3 = j := by omega
              have q9 : (n3 : Int) ≤ (j : Int) := by omega
              have HE : Hid (KS W wr (bx 61 g6 [.string s, .bool false, .int .i64 (m : Int)] :: bx 28 g8 [.slice none 0 0, .slice none 0 0, .slice none 0 0, .slice none 0 0, .slice none 0 0, .slice none 0 0, .int .u8 0] :: ⟨9, 1, .slice a1 n1 c1, n1, rp n1 [.string s]⟩ :: ⟨61, 3, .slice a2 n2 c2, n2, rp n2 [.string s, .bool false, .int .i64 (m : Int)]⟩ :: ⟨5, 1, .slice a3 n3 c3, n3, rp n3 [.int .u8 (m : Int)]⟩ :: R) H) := hid (by have := HB.out; rw [← hjn, fl1_all _ _ _ HX3.out] at this; exact this)
              clear HB hjn
              go_upto_region 15 with fail
              have HK := HE
              clear HE HM
              refine wp_region_held_drew (S := fun w => Cel w g6 61 [.string s, .bool false, .int .i64 (m : Int)]) (by kernel_rfl) (HK.out.cel 0 rfl) (fun hHeld => ?_)
              have HK := hid (HK.out.on (Below.refl _ _).drew)
              clear hHeld
              revert HK
              generalize World.drew _ = w5
              intro HK
              obtain ⟨w, hw⟩ : ∃ x, x = w5 := ⟨_, rfl⟩
              subst hw
              have hHeld : Cel w g6 61 [.string s, .bool false, .int .i64 (m : Int)] := HK.out.cel 0 rfl
              apply cutM
              case P => exact (fun (w : World) (gA : Nat) (gB : Nat) (gC : Nat) (aA : Option Addr) (aB : Option Addr) (aC : Option Addr) (cA : Nat) (cB : Nat) (cC : Nat) => Hid (KS W w (bx 9 gA [.string s] :: bx 61 gB [.string s, .bool false, .int .i64 (m : Int)] :: bx 5 gC [.int .u8 (m : Int)] :: bx 61 g6 [.string s, .bool false, .int .i64 (m : Int)] :: bx 28 g8 [.slice a1 n1 c1, .slice aA (n1 + 1) cA, .slice a2 n2 c2, .slice aB (n2 + 1) cB, .slice a3 n3 c3, .slice aC (n3 + 1) cC, .int .u8 (m : Int)] :: R) (⟨9, 1, .slice a1 n1 c1, (.slice aA (n1 + 1) cA), n1, n1 + 1, [.string s]⟩ :: ⟨61, 3, .slice a2 n2 c2, (.slice aB (n2 + 1) cB), n2, n2 + 1, [.string s, .bool false, .int .i64 (m : Int)]⟩ :: ⟨5, 1, .slice a3 n3 c3, (.slice aC (n3 + 1) cC), n3, n3 + 1, [.int .u8 (m : Int)]⟩ :: H)))
              · intro st3_4_8_9_13_14_17
                apply cutM
                case P => exact (fun (w : World) (gA : Nat) (gB : Nat) (gC : Nat) (aA : Option Addr) (aB : Option Addr) (aC : Option Addr) (cA : Nat) (cB : Nat) (cC : Nat) => Hid (KS W w (bx 9 gA [.string s] :: bx 61 gB [.string s, .bool false, .int .i64 (m : Int)] :: bx 5 gC [.int .u8 (m : Int)] :: bx 61 g6 [.string s, .bool false, .int .i64 (m : Int)] :: bx 28 g8 [.slice none 0 0, .slice none 0 0, .slice none 0 0, .slice none 0 0, .slice none 0 0, .slice none 0 0, .int .u8 0] :: R) (⟨9, 1, .slice a1 n1 c1, (.slice aA (n1 + 1) cA), n1, n1 + 1, [.string s]⟩ :: ⟨61, 3, .slice a2 n2 c2, (.slice aB (n2 + 1) cB), n2, n2 + 1, [.string s, .bool false, .int .i64 (m : Int)]⟩ :: ⟨5, 1, .slice a3 n3 c3, (.slice aC (n3 + 1) cC), n3, n3 + 1, [.int .u8 (m : Int)]⟩ :: H)))
                · intro st3_4_8_9_13_14
                  apply cutM
                  case P => exact (fun (w : World) (gA : Nat) (gB : Nat) (gC : Nat) (aA : Option Addr) (aB : Option Addr) (aC : Option Addr) (cA : Nat) (cB : Nat) (cC : Nat) => Hid (KS W w (bx 9 gA [.string s] :: bx 61 gB [.string s, .bool false, .int .i64 (m : Int)] :: bx 5 gC [.int .u8 (m : Int)] :: bx 61 g6 [.string s, .bool false, .int .i64 (m : Int)] :: bx 28 g8 [.slice none 0 0, .slice none 0 0, .slice none 0 0, .slice none 0 0, .slice none 0 0, .slice none 0 0, .int .u8 0] :: ⟨5, 1, .slice a3 n3 c3, n3, rp n3 [.int .u8 (m : Int)]⟩ :: R) (⟨9, 1, .slice a1 n1 c1, (.slice aA (n1 + 1) cA), n1, n1 + 1, [.string s]⟩ :: ⟨61, 3, .slice a2 n2 c2, (.slice aB (n2 + 1) cB), n2, n2 + 1, [.string s, .bool false, .int .i64 (m : Int)]⟩ :: H)))
                  · intro st3_4_8_9_13
                    apply cutM
                    case P => exact (fun (w : World) (gA : Nat) (gB : Nat) (gC : Nat) (aA : Option Addr) (aB : Option Addr) (aC : Option Addr) (cA : Nat) (cB : Nat) (cC : Nat) => Hid (KS W w (bx 9 gA [.string s] :: bx 61 gB [.string s, .bool false, .int .i64 (m : Int)] :: bx 5 gC [.int .u8 (m : Int)] :: bx 61 g6 [.string s, .bool false, .int .i64 (m : Int)] :: bx 28 g8 [.slice none 0 0, .slice none 0 0, .slice none 0 0, .slice none 0 0, .slice none 0 0, .slice none 0 0, .int .u8 0] :: ⟨61, 3, .slice a2 n2 c2, n2, rp n2 [.string s, .bool false, .int .i64 (m : Int)]⟩ :: ⟨5, 1, .slice a3 n3 c3, n3, rp n3 [.int .u8 (m : Int)]⟩ :: R) (⟨9, 1, .slice a1 n1 c1, (.slice aA (n1 + 1) cA), n1, n1 + 1, [.string s]⟩ :: H)))
                    · intro st3_4_8_13
                      apply cutM
                      case P => exact (fun (w : World) (gA : Nat) (gB : Nat) (gC : Nat) (aA : Option Addr) (aB : Option Addr) (aC : Option Addr) (cA : Nat) (cB : Nat) (cC : Nat) => Hid (KS W w (bx 9 gA [.string s] :: bx 61 gB [.string s, .bool false, .int .i64 (m : Int)] :: bx 61 g6 [.string s, .bool false, .int .i64 (m : Int)] :: bx 28 g8 [.slice none 0 0, .slice none 0 0, .slice none 0 0, .slice none 0 0, .slice none 0 0, .slice none 0 0, .int .u8 0] :: ⟨5, 1, .slice a3 n3 c3, n3, rp n3 [.int .u8 (m : Int)]⟩ :: R) (⟨9, 1, .slice a1 n1 c1, (.slice aA (n1 + 1) cA), n1, n1 + 1, [.string s]⟩ :: ⟨61, 3, .slice a2 n2 c2, (.slice aB (n2 + 1) cB), n2, n2 + 1, [.string s, .bool false, .int .i64 (m : Int)]⟩ :: H)))
                      · intro st3_4_8_9
                        apply cutM
                        case P => exact (fun (w : World) (gA : Nat) (gB : Nat) (gC : Nat) (aA : Option Addr) (aB : Option Addr) (aC : Option Addr) (cA : Nat) (cB : Nat) (cC : Nat) => Hid (KS W w (bx 9 gA [.string s] :: bx 61 gB [.string s, .bool false, .int .i64 (m : Int)] :: bx 5 gC [.int .u8 (m : Int)] :: bx 61 g6 [.string s, .bool false, .int .i64 (m : Int)] :: bx 28 g8 [.slice none 0 0, .slice none 0 0, .slice none 0 0, .slice none 0 0, .slice none 0 0, .slice none 0 0, .int .u8 0] :: ⟨9, 1, .slice a1 n1 c1, n1, rp n1 [.string s]⟩ :: ⟨61, 3, .slice a2 n2 c2, n2, rp n2 [.string s, .bool false, .int .i64 (m : Int)]⟩ :: ⟨5, 1, .slice a3 n3 c3, n3, rp n3 [.int .u8 (m : Int)]⟩ :: R) (H)))
                        · intro st3_8_13
                          apply cutM
                          case P => exact (fun (w : World) (gA : Nat) (gB : Nat) (gC : Nat) (aA : Option Addr) (aB : Option Addr) (aC : Option Addr) (cA : Nat) (cB : Nat) (cC : Nat) => Hid (KS W w (bx 9 gA [.string s] :: bx 5 gC [.int .u8 (m : Int)] :: bx 61 g6 [.string s, .bool false, .int .i64 (m : Int)] :: bx 28 g8 [.slice none 0 0, .slice none 0 0, .slice none 0 0, .slice none 0 0, .slice none 0 0, .slice none 0 0, .int .u8 0] :: ⟨61, 3, .slice a2 n2 c2, n2, rp n2 [.string s, .bool false, .int .i64 (m : Int)]⟩ :: ⟨5, 1, .slice a3 n3 c3, n3, rp n3 [.int .u8 (m : Int)]⟩ :: R) (⟨9, 1, .slice a1 n1 c1, (.slice aA (n1 + 1) cA), n1, n1 + 1, [.string s]⟩ :: H)))
                          · intro st3_4_13
                            apply cutM
                            case P => exact (fun (w : World) (gA : Nat) (gB : Nat) (gC : Nat) (aA : Option Addr) (aB : Option Addr) (aC : Option Addr) (cA : Nat) (cB : Nat) (cC : Nat) => Hid (KS W w (bx 9 gA [.string s] :: bx 61 gB [.string s, .bool false, .int .i64 (m : Int)] :: bx 61 g6 [.string s, .bool false, .int .i64 (m : Int)] :: bx 28 g8 [.slice none 0 0, .slice none 0 0, .slice none 0 0, .slice none 0 0, .slice none 0 0, .slice none 0 0, .int .u8 0] :: ⟨61, 3, .slice a2 n2 c2, n2, rp n2 [.string s, .bool false, .int .i64 (m : Int)]⟩ :: ⟨5, 1, .slice a3 n3 c3, n3, rp n3 [.int .u8 (m : Int)]⟩ :: R) (⟨9, 1, .slice a1 n1 c1, (.slice aA (n1 + 1) cA), n1, n1 + 1, [.string s]⟩ :: H)))
                            · intro st3_4_8
                              apply cutM
                              case P => exact (fun (w : World) (gA : Nat) (gB : Nat) (gC : Nat) (aA : Option Addr) (aB : Option Addr) (aC : Option Addr) (cA : Nat) (cB : Nat) (cC : Nat) => Hid (KS W w (bx 61 gB [.string s, .bool false, .int .i64 (m : Int)] :: bx 5 gC [.int .u8 (m : Int)] :: bx 61 g6 [.string s, .bool false, .int .i64 (m : Int)] :: bx 28 g8 [.slice none 0 0, .slice none 0 0, .slice none 0 0, .slice none 0 0, .slice none 0 0, .slice none 0 0, .int .u8 0] :: ⟨9, 1, .slice a1 n1 c1, n1, rp n1 [.string s]⟩ :: ⟨61, 3, .slice a2 n2 c2, n2, rp n2 [.string s, .bool false, .int .i64 (m : Int)]⟩ :: ⟨5, 1, .slice a3 n3 c3, n3, rp n3 [.int .u8 (m : Int)]⟩ :: R) (H)))
                              · intro st8_13
                                apply cutM
                                case P => exact (fun (w : World) (gA : Nat) (gB : Nat) (gC : Nat) (aA : Option Addr) (aB : Option Addr) (aC : Option Addr) (cA : Nat) (cB : Nat) (cC : Nat) => Hid (KS W w (bx 9 gA [.string s] :: bx 5 gC [.int .u8 (m : Int)] :: bx 61 g6 [.string s, .bool false, .int .i64 (m : Int)] :: bx 28 g8 [.slice none 0 0, .slice none 0 0, .slice none 0 0, .slice none 0 0, .slice none 0 0, .slice none 0 0, .int .u8 0] :: ⟨9, 1, .slice a1 n1 c1, n1, rp n1 [.string s]⟩ :: ⟨61, 3, .slice a2 n2 c2, n2, rp n2 [.string s, .bool false, .int .i64 (m : Int)]⟩ :: ⟨5, 1, .slice a3 n3 c3, n3, rp n3 [.int .u8 (m : Int)]⟩ :: R) (H)))
                                · intro st3_13
                                  apply cutM
                                  case P => exact (fun (w : World) (gA : Nat) (gB : Nat) (gC : Nat) (aA : Option Addr) (aB : Option Addr) (aC : Option Addr) (cA : Nat) (cB : Nat) (cC : Nat) => Hid (KS W w (bx 9 gA [.string s] :: bx 61 gB [.string s, .bool false, .int .i64 (m : Int)] :: bx 61 g6 [.string s, .bool false, .int .i64 (m : Int)] :: bx 28 g8 [.slice none 0 0, .slice none 0 0, .slice none 0 0, .slice none 0 0, .slice none 0 0, .slice none 0 0, .int .u8 0] :: ⟨9, 1, .slice a1 n1 c1, n1, rp n1 [.string s]⟩ :: ⟨61, 3, .slice a2 n2 c2, n2, rp n2 [.string s, .bool false, .int .i64 (m : Int)]⟩ :: ⟨5, 1, .slice a3 n3 c3, n3, rp n3 [.int .u8 (m : Int)]⟩ :: R) (H)))
                                  · intro st3_8
                                    apply cutM
                                    case P => exact (fun (w : World) (gA : Nat) (gB : Nat) (gC : Nat) (aA : Option Addr) (aB : Option Addr) (aC : Option Addr) (cA : Nat) (cB : Nat) (cC : Nat) => Hid (KS W w (bx 9 gA [.string s] :: bx 61 g6 [.string s, .bool false, .int .i64 (m : Int)] :: bx 28 g8 [.slice none 0 0, .slice none 0 0, .slice none 0 0, .slice none 0 0, .slice none 0 0, .slice none 0 0, .int .u8 0] :: ⟨61, 3, .slice a2 n2 c2, n2, rp n2 [.string s, .bool false, .int .i64 (m : Int)]⟩ :: ⟨5, 1, .slice a3 n3 c3, n3, rp n3 [.int .u8 (m : Int)]⟩ :: R) (⟨9, 1, .slice a1 n1 c1, (.slice aA (n1 + 1) cA), n1, n1 + 1, [.string s]⟩ :: H)))
                                    · intro st3_4
                                      apply cutM
                                      case P => exact (fun (w : World) (gA : Nat) (gB : Nat) (gC : Nat) (aA : Option Addr) (aB : Option Addr) (aC : Option Addr) (cA : Nat) (cB : Nat) (cC : Nat) => Hid (KS W w (bx 5 gC [.int .u8 (m : Int)] :: bx 61 g6 [.string s, .bool false, .int .i64 (m : Int)] :: bx 28 g8 [.slice none 0 0, .slice none 0 0, .slice none 0 0, .slice none 0 0, .slice none 0 0, .slice none 0 0, .int .u8 0] :: ⟨9, 1, .slice a1 n1 c1, n1, rp n1 [.string s]⟩ :: ⟨61, 3, .slice a2 n2 c2, n2, rp n2 [.string s, .bool false, .int .i64 (m : Int)]⟩ :: ⟨5, 1, .slice a3 n3 c3, n3, rp n3 [.int .u8 (m : Int)]⟩ :: R) (H)))
                                      · intro st13
                                        apply cutM
                                        case P => exact (fun (w : World) (gA : Nat) (gB : Nat) (gC : Nat) (aA : Option Addr) (aB : Option Addr) (aC : Option Addr) (cA : Nat) (cB : Nat) (cC : Nat) => Hid (KS W w (bx 61 gB [.string s, .bool false, .int .i64 (m : Int)] :: bx 61 g6 [.string s, .bool false, .int .i64 (m : Int)] :: bx 28 g8 [.slice none 0 0, .slice none 0 0, .slice none 0 0, .slice none 0 0, .slice none 0 0, .slice none 0 0, .int .u8 0] :: ⟨9, 1, .slice a1 n1 c1, n1, rp n1 [.string s]⟩ :: ⟨61, 3, .slice a2 n2 c2, n2, rp n2 [.string s, .bool false, .int .i64 (m : Int)]⟩ :: ⟨5, 1, .slice a3 n3 c3, n3, rp n3 [.int .u8 (m : Int)]⟩ :: R) (H)))
                                        · intro st8
                                          apply cutM
                                          case P => exact (fun (w : World) (gA : Nat) (gB : Nat) (gC : Nat) (aA : Option Addr) (aB : Option Addr) (aC : Option Addr) (cA : Nat) (cB : Nat) (cC : Nat) => Hid (KS W w (bx 9 gA [.string s] :: bx 61 g6 [.string s, .bool false, .int .i64 (m : Int)] :: bx 28 g8 [.slice none 0 0, .slice none 0 0, .slice none 0 0, .slice none 0 0, .slice none 0 0, .slice none 0 0, .int .u8 0] :: ⟨9, 1, .slice a1 n1 c1, n1, rp n1 [.string s]⟩ :: ⟨61, 3, .slice a2 n2 c2, n2, rp n2 [.string s, .bool false, .int .i64 (m : Int)]⟩ :: ⟨5, 1, .slice a3 n3 c3, n3, rp n3 [.int .u8 (m : Int)]⟩ :: R) (H)))
                                          · intro st3
                                            refine tk 0 ⟨some 51, .move (.tmp 0), 24, "law.go:156", #[], none⟩ (.slice a1 n1 c1) ?_
                                            simp only [Act.put, List.setIfInBounds_toArray, List.set_cons_zero, List.set_cons_succ]
                                            refine tk 1 ⟨some 52, .move (.tmp 0), 24, "law.go:156", #[], none⟩ (.slice a1 n1 c1) ?_
                                            simp only [Act.put, List.setIfInBounds_toArray, List.set_cons_zero, List.set_cons_succ]
                                            refine tk 2 ⟨some 53, .move (.tmp 9), 9, "law.go:156", #[], none⟩ (.string s) ?_
                                            simp only [Act.put, List.setIfInBounds_toArray, List.set_cons_zero, List.set_cons_succ]
                                            refine tk 5 ⟨some 56, .move (.tmp 1), 25, "law.go:156", #[], none⟩ (.slice a2 n2 c2) ?_
                                            simp only [Act.put, List.setIfInBounds_toArray, List.set_cons_zero, List.set_cons_succ]
                                            refine tk 6 ⟨some 57, .move (.tmp 1), 25, "law.go:156", #[], none⟩ (.slice a2 n2 c2) ?_
                                            simp only [Act.put, List.setIfInBounds_toArray, List.set_cons_zero, List.set_cons_succ]
                                            refine tk 7 ⟨some 58, .load 61 (.tmp 10), 61, "law.go:156", #[], none⟩ (.agg #[.string s, .bool false, .int .i64 (m : Int)]) ?_ (hy := Or.inl ⟨by rfl, by intro w hSw; have k0 := Cel.cell hSw 0; have k1 := Cel.cell hSw 1; have k2 := Cel.cell hSw 2; simp only [List.getElem?_cons_zero, List.getElem?_cons_succ] at k0 k1 k2; go_simp⟩)
                                            simp only [Act.put, List.setIfInBounds_toArray, List.set_cons_zero, List.set_cons_succ]
                                            refine tk 10 ⟨some 61, .move (.tmp 2), 26, "law.go:156", #[], none⟩ (.slice a3 n3 c3) ?_
                                            simp only [Act.put, List.setIfInBounds_toArray, List.set_cons_zero, List.set_cons_succ]
                                            refine tk 11 ⟨some 62, .move (.tmp 2), 26, "law.go:156", #[], none⟩ (.slice a3 n3 c3) ?_
                                            simp only [Act.put, List.setIfInBounds_toArray, List.set_cons_zero, List.set_cons_succ]
                                            refine tk 12 ⟨some 63, .move (.tmp 3), 5, "law.go:156", #[], none⟩ (.int .u8 (m : Int)) ?_
                                            simp only [Act.put, List.setIfInBounds_toArray, List.set_cons_zero, List.set_cons_succ]
                                            refine tk 15 ⟨some 66, .move (.tmp 3), 5, "law.go:156", #[], none⟩ (.int .u8 (m : Int)) ?_
                                            simp only [Act.put, List.setIfInBounds_toArray, List.set_cons_zero, List.set_cons_succ]
                                            refine wpAnyH_ready (rs := [3, 8, 13]) (by kernel_rfl) (by simp) (AllReadyH.cons (o := ⟨some 54, .buildSlice 24 1 #[(0, .tmp 53)], 24, "law.go:156", #[⟨2, .data⟩], none⟩) rfl (fun KQ hK => ?_) (AllReadyH.cons (o := ⟨some 59, .buildSlice 25 1 #[(0, .tmp 58)], 25, "law.go:156", #[⟨7, .data⟩], none⟩) rfl (fun KQ hK => ?_) (AllReadyH.cons (o := ⟨some 64, .buildSlice 26 1 #[(0, .tmp 63)], 26, "law.go:156", #[⟨12, .data⟩], none⟩) rfl (fun KQ hK => ?_) AllReadyH.nil)))
                                            · go_simp
                                              have HK1 := hid (HK.out.boxAt 0 (by simp) 9 [.string s])
                                              refine hK.out _ _ (HK1.out.cel 1 rfl) (fun hHeld => ?_)
                                              clear hK KQ hHeld
                                              try simp only [Act.put, List.setIfInBounds_toArray, List.set_cons_zero, List.set_cons_succ]
                                              revert HK1
                                              generalize w.alloc _ = wN
                                              generalize w.heap.size = gA
                                              intro HK1
                                              have HKN : Hid (KS W wN (bx 9 gA [.string s] :: bx 61 g6 [.string s, .bool false, .int .i64 (m : Int)] :: bx 28 g8 [.slice none 0 0, .slice none 0 0, .slice none 0 0, .slice none 0 0, .slice none 0 0, .slice none 0 0, .int .u8 0] :: ⟨9, 1, .slice a1 n1 c1, n1, rp n1 [.string s]⟩ :: ⟨61, 3, .slice a2 n2 c2, n2, rp n2 [.string s, .bool false, .int .i64 (m : Int)]⟩ :: ⟨5, 1, .slice a3 n3 c3, n3, rp n3 [.int .u8 (m : Int)]⟩ :: R) (H)) := HK1
                                              refine listed_to (l' := #[true, true, true, true, false, true, true, true, false, false, true, true, true, false, false, true, false, false]) (by kernel_rfl) ?_
                                              obtain ⟨dgB, _⟩ : ∃ n : Nat, n = n := ⟨0, rfl⟩
                                              obtain ⟨dgC, _⟩ : ∃ n : Nat, n = n := ⟨0, rfl⟩
                                              obtain ⟨daA, _⟩ : ∃ n : Option Addr, n = n := ⟨none, rfl⟩
                                              obtain ⟨daB, _⟩ : ∃ n : Option Addr, n = n := ⟨none, rfl⟩
                                              obtain ⟨daC, _⟩ : ∃ n : Option Addr, n = n := ⟨none, rfl⟩
                                              obtain ⟨dcA, _⟩ : ∃ n : Nat, n = n := ⟨0, rfl⟩
                                              obtain ⟨dcB, _⟩ : ∃ n : Nat, n = n := ⟨0, rfl⟩
                                              obtain ⟨dcC, _⟩ : ∃ n : Nat, n = n := ⟨0, rfl⟩
                                              exact st3 wN gA dgB dgC daA daB daC dcA dcB dcC HKN
                                            · go_simp
                                              have HK1 := hid (HK.out.boxAt 0 (by simp) 61 [.string s, .bool false, .int .i64 (m : Int)])
                                              refine hK.out _ _ (HK1.out.cel 1 rfl) (fun hHeld => ?_)
                                              clear hK KQ hHeld
                                              try simp only [Act.put, List.setIfInBounds_toArray, List.set_cons_zero, List.set_cons_succ]
                                              revert HK1
                                              generalize w.alloc _ = wN
                                              generalize w.heap.size = gB
                                              intro HK1
                                              have HKN : Hid (KS W wN (bx 61 gB [.string s, .bool false, .int .i64 (m : Int)] :: bx 61 g6 [.string s, .bool false, .int .i64 (m : Int)] :: bx 28 g8 [.slice none 0 0, .slice none 0 0, .slice none 0 0, .slice none 0 0, .slice none 0 0, .slice none 0 0, .int .u8 0] :: ⟨9, 1, .slice a1 n1 c1, n1, rp n1 [.string s]⟩ :: ⟨61, 3, .slice a2 n2 c2, n2, rp n2 [.string s, .bool false, .int .i64 (m : Int)]⟩ :: ⟨5, 1, .slice a3 n3 c3, n3, rp n3 [.int .u8 (m : Int)]⟩ :: R) (H)) := HK1
                                              refine listed_to (l' := #[true, true, true, false, false, true, true, true, true, false, true, true, true, false, false, true, false, false]) (by kernel_rfl) ?_
                                              obtain ⟨dgA, _⟩ : ∃ n : Nat, n = n := ⟨0, rfl⟩
                                              obtain ⟨dgC, _⟩ : ∃ n : Nat, n = n := ⟨0, rfl⟩
                                              obtain ⟨daA, _⟩ : ∃ n : Option Addr, n = n := ⟨none, rfl⟩
                                              obtain ⟨daB, _⟩ : ∃ n : Option Addr, n = n := ⟨none, rfl⟩
                                              obtain ⟨daC, _⟩ : ∃ n : Option Addr, n = n := ⟨none, rfl⟩
                                              obtain ⟨dcA, _⟩ : ∃ n : Nat, n = n := ⟨0, rfl⟩
                                              obtain ⟨dcB, _⟩ : ∃ n : Nat, n = n := ⟨0, rfl⟩
                                              obtain ⟨dcC, _⟩ : ∃ n : Nat, n = n := ⟨0, rfl⟩
                                              exact st8 wN dgA gB dgC daA daB daC dcA dcB dcC HKN
                                            · go_simp
                                              have HK1 := hid (HK.out.boxAt 0 (by simp) 5 [.int .u8 (m : Int)])
                                              refine hK.out _ _ (HK1.out.cel 1 rfl) (fun hHeld => ?_)
                                              clear hK KQ hHeld
                                              try simp only [Act.put, List.setIfInBounds_toArray, List.set_cons_zero, List.set_cons_succ]
                                              revert HK1
                                              generalize w.alloc _ = wN
                                              generalize w.heap.size = gC
                                              intro HK1
                                              have HKN : Hid (KS W wN (bx 5 gC [.int .u8 (m : Int)] :: bx 61 g6 [.string s, .bool false, .int .i64 (m : Int)] :: bx 28 g8 [.slice none 0 0, .slice none 0 0, .slice none 0 0, .slice none 0 0, .slice none 0 0, .slice none 0 0, .int .u8 0] :: ⟨9, 1, .slice a1 n1 c1, n1, rp n1 [.string s]⟩ :: ⟨61, 3, .slice a2 n2 c2, n2, rp n2 [.string s, .bool false, .int .i64 (m : Int)]⟩ :: ⟨5, 1, .slice a3 n3 c3, n3, rp n3 [.int .u8 (m : Int)]⟩ :: R) (H)) := HK1
                                              refine listed_to (l' := #[true, true, true, false, false, true, true, true, false, false, true, true, true, true, false, true, false, false]) (by kernel_rfl) ?_
                                              obtain ⟨dgA, _⟩ : ∃ n : Nat, n = n := ⟨0, rfl⟩
                                              obtain ⟨dgB, _⟩ : ∃ n : Nat, n = n := ⟨0, rfl⟩
                                              obtain ⟨daA, _⟩ : ∃ n : Option Addr, n = n := ⟨none, rfl⟩
                                              obtain ⟨daB, _⟩ : ∃ n : Option Addr, n = n := ⟨none, rfl⟩
                                              obtain ⟨daC, _⟩ : ∃ n : Option Addr, n = n := ⟨none, rfl⟩
                                              obtain ⟨dcA, _⟩ : ∃ n : Nat, n = n := ⟨0, rfl⟩
                                              obtain ⟨dcB, _⟩ : ∃ n : Nat, n = n := ⟨0, rfl⟩
                                              obtain ⟨dcC, _⟩ : ∃ n : Nat, n = n := ⟨0, rfl⟩
                                              exact st13 wN dgA dgB gC daA daB daC dcA dcB dcC HKN
                                          · intro w gA gB gC aA aB aC cA cB cC HK
                                            have HK : Hid (KS W w (bx 9 gA [.string s] :: bx 61 g6 [.string s, .bool false, .int .i64 (m : Int)] :: bx 28 g8 [.slice none 0 0, .slice none 0 0, .slice none 0 0, .slice none 0 0, .slice none 0 0, .slice none 0 0, .int .u8 0] :: ⟨9, 1, .slice a1 n1 c1, n1, rp n1 [.string s]⟩ :: ⟨61, 3, .slice a2 n2 c2, n2, rp n2 [.string s, .bool false, .int .i64 (m : Int)]⟩ :: ⟨5, 1, .slice a3 n3 c3, n3, rp n3 [.int .u8 (m : Int)]⟩ :: R) (H)) := HK
                                            have hHeld : Cel w g6 61 [.string s, .bool false, .int .i64 (m : Int)] := HK.out.cel 1 rfl
                                            refine wpAnyH_ready (rs := [4, 8, 13]) (by kernel_rfl) (by simp) (AllReadyH.cons (o := ⟨some 55, .call { callee := .builtin .append, args := #[.tmp 52, .tmp 54], argTypes := #[24, 24] }, 24, "law.go:156", #[⟨1, .data⟩, ⟨3, .data⟩], none⟩) rfl (fun KQ hK => ?_) (AllReadyH.cons (o := ⟨some 59, .buildSlice 25 1 #[(0, .tmp 58)], 25, "law.go:156", #[⟨7, .data⟩], none⟩) rfl (fun KQ hK => ?_) (AllReadyH.cons (o := ⟨some 64, .buildSlice 26 1 #[(0, .tmp 63)], 26, "law.go:156", #[⟨12, .data⟩], none⟩) rfl (fun KQ hK => ?_) AllReadyH.nil)))
                                            · rw [if_pos (by rfl)]
                                              refine wp_append_s _ _ 24 9 rfl Tryz.underlying24 Tryz.info9 rfl (by decide) (by decide) rfl (HK.out.mem (i := 3) rfl) HK.out.below.size rfl (by rfl) (HK.out.cel 0 rfl).lie (by simp [Value.oneCell']) (by show n1 + 1 ≤ _; omega) ?_
                                              intro v2 wN hal
                                              obtain ⟨aA, cA, rfl⟩ := two_frm hal (by decide)
                                              have HKN : Hid (KS W wN (bx 9 gA [.string s] :: bx 61 g6 [.string s, .bool false, .int .i64 (m : Int)] :: bx 28 g8 [.slice none 0 0, .slice none 0 0, .slice none 0 0, .slice none 0 0, .slice none 0 0, .slice none 0 0, .int .u8 0] :: ⟨61, 3, .slice a2 n2 c2, n2, rp n2 [.string s, .bool false, .int .i64 (m : Int)]⟩ :: ⟨5, 1, .slice a3 n3 c3, n3, rp n3 [.int .u8 (m : Int)]⟩ :: R) (⟨9, 1, .slice a1 n1 c1, (.slice aA (n1 + 1) cA), n1, n1 + 1, [.string s]⟩ :: H)) := hid ((HK.out.keepAt 3 rfl rfl hal).hsub (by intro x hx; simp only [List.mem_cons] at hx ⊢; rcases hx with hx | hx <;> first | exact .inl hx | exact .inr (hx)))
                                              refine hK.out _ _ (HKN.out.cel 1 rfl) (fun hHeld => ?_)
                                              clear hK KQ hHeld
                                              try simp only [Act.put, List.setIfInBounds_toArray, List.set_cons_zero, List.set_cons_succ]
                                              refine listed_to (l' := #[true, true, true, true, true, true, true, true, false, false, true, true, true, false, false, true, false, false]) (by kernel_rfl) ?_
                                              obtain ⟨dgB, _⟩ : ∃ n : Nat, n = n := ⟨0, rfl⟩
                                              obtain ⟨dgC, _⟩ : ∃ n : Nat, n = n := ⟨0, rfl⟩
                                              obtain ⟨daB, _⟩ : ∃ n : Option Addr, n = n := ⟨none, rfl⟩
                                              obtain ⟨daC, _⟩ : ∃ n : Option Addr, n = n := ⟨none, rfl⟩
                                              obtain ⟨dcB, _⟩ : ∃ n : Nat, n = n := ⟨0, rfl⟩
                                              obtain ⟨dcC, _⟩ : ∃ n : Nat, n = n := ⟨0, rfl⟩
                                              exact st3_4 wN gA dgB dgC aA daB daC cA dcB dcC HKN
                                            · go_simp
                                              have HK1 := hid (HK.out.boxAt 1 (by simp) 61 [.string s, .bool false, .int .i64 (m : Int)])
                                              refine hK.out _ _ (HK1.out.cel 2 rfl) (fun hHeld => ?_)
                                              clear hK KQ hHeld
                                              try simp only [List.setIfInBounds_toArray, List.set_cons_zero, List.set_cons_succ]
                                              revert HK1
                                              generalize w.alloc _ = wN
                                              generalize w.heap.size = gB
                                              intro HK1
                                              have HKN : Hid (KS W wN (bx 9 gA [.string s] :: bx 61 gB [.string s, .bool false, .int .i64 (m : Int)] :: bx 61 g6 [.string s, .bool false, .int .i64 (m : Int)] :: bx 28 g8 [.slice none 0 0, .slice none 0 0, .slice none 0 0, .slice none 0 0, .slice none 0 0, .slice none 0 0, .int .u8 0] :: ⟨9, 1, .slice a1 n1 c1, n1, rp n1 [.string s]⟩ :: ⟨61, 3, .slice a2 n2 c2, n2, rp n2 [.string s, .bool false, .int .i64 (m : Int)]⟩ :: ⟨5, 1, .slice a3 n3 c3, n3, rp n3 [.int .u8 (m : Int)]⟩ :: R) (H)) := HK1
                                              refine listed_to (l' := #[true, true, true, true, false, true, true, true, true, false, true, true, true, false, false, true, false, false]) (by kernel_rfl) ?_
                                              obtain ⟨dgC, _⟩ : ∃ n : Nat, n = n := ⟨0, rfl⟩
                                              obtain ⟨daA, _⟩ : ∃ n : Option Addr, n = n := ⟨none, rfl⟩
                                              obtain ⟨daB, _⟩ : ∃ n : Option Addr, n = n := ⟨none, rfl⟩
                                              obtain ⟨daC, _⟩ : ∃ n : Option Addr, n = n := ⟨none, rfl⟩
                                              obtain ⟨dcA, _⟩ : ∃ n : Nat, n = n := ⟨0, rfl⟩
                                              obtain ⟨dcB, _⟩ : ∃ n : Nat, n = n := ⟨0, rfl⟩
                                              obtain ⟨dcC, _⟩ : ∃ n : Nat, n = n := ⟨0, rfl⟩
                                              exact st3_8 wN gA gB dgC daA daB daC dcA dcB dcC HKN
                                            · go_simp
                                              have HK1 := hid (HK.out.boxAt 1 (by simp) 5 [.int .u8 (m : Int)])
                                              refine hK.out _ _ (HK1.out.cel 2 rfl) (fun hHeld => ?_)
                                              clear hK KQ hHeld
                                              try simp only [List.setIfInBounds_toArray, List.set_cons_zero, List.set_cons_succ]
                                              revert HK1
                                              generalize w.alloc _ = wN
                                              generalize w.heap.size = gC
                                              intro HK1
                                              have HKN : Hid (KS W wN (bx 9 gA [.string s] :: bx 5 gC [.int .u8 (m : Int)] :: bx 61 g6 [.string s, .bool false, .int .i64 (m : Int)] :: bx 28 g8 [.slice none 0 0, .slice none 0 0, .slice none 0 0, .slice none 0 0, .slice none 0 0, .slice none 0 0, .int .u8 0] :: ⟨9, 1, .slice a1 n1 c1, n1, rp n1 [.string s]⟩ :: ⟨61, 3, .slice a2 n2 c2, n2, rp n2 [.string s, .bool false, .int .i64 (m : Int)]⟩ :: ⟨5, 1, .slice a3 n3 c3, n3, rp n3 [.int .u8 (m : Int)]⟩ :: R) (H)) := HK1
                                              refine listed_to (l' := #[true, true, true, true, false, true, true, true, false, false, true, true, true, true, false, true, false, false]) (by kernel_rfl) ?_
                                              obtain ⟨dgB, _⟩ : ∃ n : Nat, n = n := ⟨0, rfl⟩
                                              obtain ⟨daA, _⟩ : ∃ n : Option Addr, n = n := ⟨none, rfl⟩
                                              obtain ⟨daB, _⟩ : ∃ n : Option Addr, n = n := ⟨none, rfl⟩
                                              obtain ⟨daC, _⟩ : ∃ n : Option Addr, n = n := ⟨none, rfl⟩
                                              obtain ⟨dcA, _⟩ : ∃ n : Nat, n = n := ⟨0, rfl⟩
                                              obtain ⟨dcB, _⟩ : ∃ n : Nat, n = n := ⟨0, rfl⟩
                                              obtain ⟨dcC, _⟩ : ∃ n : Nat, n = n := ⟨0, rfl⟩
                                              exact st3_13 wN gA dgB gC daA daB daC dcA dcB dcC HKN
                                        · intro w gA gB gC aA aB aC cA cB cC HK
                                          have HK : Hid (KS W w (bx 61 gB [.string s, .bool false, .int .i64 (m : Int)] :: bx 61 g6 [.string s, .bool false, .int .i64 (m : Int)] :: bx 28 g8 [.slice none 0 0, .slice none 0 0, .slice none 0 0, .slice none 0 0, .slice none 0 0, .slice none 0 0, .int .u8 0] :: ⟨9, 1, .slice a1 n1 c1, n1, rp n1 [.string s]⟩ :: ⟨61, 3, .slice a2 n2 c2, n2, rp n2 [.string s, .bool false, .int .i64 (m : Int)]⟩ :: ⟨5, 1, .slice a3 n3 c3, n3, rp n3 [.int .u8 (m : Int)]⟩ :: R) (H)) := HK
                                          have hHeld : Cel w g6 61 [.string s, .bool false, .int .i64 (m : Int)] := HK.out.cel 1 rfl
                                          refine wpAnyH_ready (rs := [3, 13]) (by kernel_rfl) (by simp) (AllReadyH.cons (o := ⟨some 54, .buildSlice 24 1 #[(0, .tmp 53)], 24, "law.go:156", #[⟨2, .data⟩], none⟩) rfl (fun KQ hK => ?_) (AllReadyH.cons (o := ⟨some 64, .buildSlice 26 1 #[(0, .tmp 63)], 26, "law.go:156", #[⟨12, .data⟩], none⟩) rfl (fun KQ hK => ?_) AllReadyH.nil))
                                          · go_simp
                                            have HK1 := hid (HK.out.boxAt 0 (by simp) 9 [.string s])
                                            refine hK.out _ _ (HK1.out.cel 2 rfl) (fun hHeld => ?_)
                                            clear hK KQ hHeld
                                            try simp only [List.setIfInBounds_toArray, List.set_cons_zero, List.set_cons_succ]
                                            revert HK1
                                            generalize w.alloc _ = wN
                                            generalize w.heap.size = gA
                                            intro HK1
                                            have HKN : Hid (KS W wN (bx 9 gA [.string s] :: bx 61 gB [.string s, .bool false, .int .i64 (m : Int)] :: bx 61 g6 [.string s, .bool false, .int .i64 (m : Int)] :: bx 28 g8 [.slice none 0 0, .slice none 0 0, .slice none 0 0, .slice none 0 0, .slice none 0 0, .slice none 0 0, .int .u8 0] :: ⟨9, 1, .slice a1 n1 c1, n1, rp n1 [.string s]⟩ :: ⟨61, 3, .slice a2 n2 c2, n2, rp n2 [.string s, .bool false, .int .i64 (m : Int)]⟩ :: ⟨5, 1, .slice a3 n3 c3, n3, rp n3 [.int .u8 (m : Int)]⟩ :: R) (H)) := HK1
                                            refine listed_to (l' := #[true, true, true, true, false, true, true, true, true, false, true, true, true, false, false, true, false, false]) (by kernel_rfl) ?_
                                            obtain ⟨dgC, _⟩ : ∃ n : Nat, n = n := ⟨0, rfl⟩
                                            obtain ⟨daA, _⟩ : ∃ n : Option Addr, n = n := ⟨none, rfl⟩
                                            obtain ⟨daB, _⟩ : ∃ n : Option Addr, n = n := ⟨none, rfl⟩
                                            obtain ⟨daC, _⟩ : ∃ n : Option Addr, n = n := ⟨none, rfl⟩
                                            obtain ⟨dcA, _⟩ : ∃ n : Nat, n = n := ⟨0, rfl⟩
                                            obtain ⟨dcB, _⟩ : ∃ n : Nat, n = n := ⟨0, rfl⟩
                                            obtain ⟨dcC, _⟩ : ∃ n : Nat, n = n := ⟨0, rfl⟩
                                            exact st3_8 wN gA gB dgC daA daB daC dcA dcB dcC HKN
                                          · go_simp
                                            have HK1 := hid (HK.out.boxAt 1 (by simp) 5 [.int .u8 (m : Int)])
                                            refine hK.out _ _ (HK1.out.cel 2 rfl) (fun hHeld => ?_)
                                            clear hK KQ hHeld
                                            try simp only [List.setIfInBounds_toArray, List.set_cons_zero, List.set_cons_succ]
                                            revert HK1
                                            generalize w.alloc _ = wN
                                            generalize w.heap.size = gC
                                            intro HK1
                                            have HKN : Hid (KS W wN (bx 61 gB [.string s, .bool false, .int .i64 (m : Int)] :: bx 5 gC [.int .u8 (m : Int)] :: bx 61 g6 [.string s, .bool false, .int .i64 (m : Int)] :: bx 28 g8 [.slice none 0 0, .slice none 0 0, .slice none 0 0, .slice none 0 0, .slice none 0 0, .slice none 0 0, .int .u8 0] :: ⟨9, 1, .slice a1 n1 c1, n1, rp n1 [.string s]⟩ :: ⟨61, 3, .slice a2 n2 c2, n2, rp n2 [.string s, .bool false, .int .i64 (m : Int)]⟩ :: ⟨5, 1, .slice a3 n3 c3, n3, rp n3 [.int .u8 (m : Int)]⟩ :: R) (H)) := HK1
                                            refine listed_to (l' := #[true, true, true, false, false, true, true, true, true, false, true, true, true, true, false, true, false, false]) (by kernel_rfl) ?_
                                            obtain ⟨dgA, _⟩ : ∃ n : Nat, n = n := ⟨0, rfl⟩
                                            obtain ⟨daA, _⟩ : ∃ n : Option Addr, n = n := ⟨none, rfl⟩
                                            obtain ⟨daB, _⟩ : ∃ n : Option Addr, n = n := ⟨none, rfl⟩
                                            obtain ⟨daC, _⟩ : ∃ n : Option Addr, n = n := ⟨none, rfl⟩
                                            obtain ⟨dcA, _⟩ : ∃ n : Nat, n = n := ⟨0, rfl⟩
                                            obtain ⟨dcB, _⟩ : ∃ n : Nat, n = n := ⟨0, rfl⟩
                                            obtain ⟨dcC, _⟩ : ∃ n : Nat, n = n := ⟨0, rfl⟩
                                            exact st8_13 wN dgA gB gC daA daB daC dcA dcB dcC HKN
                                      · intro w gA gB gC aA aB aC cA cB cC HK
                                        have HK : Hid (KS W w (bx 5 gC [.int .u8 (m : Int)] :: bx 61 g6 [.string s, .bool false, .int .i64 (m : Int)] :: bx 28 g8 [.slice none 0 0, .slice none 0 0, .slice none 0 0, .slice none 0 0, .slice none 0 0, .slice none 0 0, .int .u8 0] :: ⟨9, 1, .slice a1 n1 c1, n1, rp n1 [.string s]⟩ :: ⟨61, 3, .slice a2 n2 c2, n2, rp n2 [.string s, .bool false, .int .i64 (m : Int)]⟩ :: ⟨5, 1, .slice a3 n3 c3, n3, rp n3 [.int .u8 (m : Int)]⟩ :: R) (H)) := HK
                                        have hHeld : Cel w g6 61 [.string s, .bool false, .int .i64 (m : Int)] := HK.out.cel 1 rfl
                                        refine wpAnyH_ready (rs := [3, 8]) (by kernel_rfl) (by simp) (AllReadyH.cons (o := ⟨some 54, .buildSlice 24 1 #[(0, .tmp 53)], 24, "law.go:156", #[⟨2, .data⟩], none⟩) rfl (fun KQ hK => ?_) (AllReadyH.cons (o := ⟨some 59, .buildSlice 25 1 #[(0, .tmp 58)], 25, "law.go:156", #[⟨7, .data⟩], none⟩) rfl (fun KQ hK => ?_) AllReadyH.nil))
                                        · go_simp
                                          have HK1 := hid (HK.out.boxAt 0 (by simp) 9 [.string s])
                                          refine hK.out _ _ (HK1.out.cel 2 rfl) (fun hHeld => ?_)
                                          clear hK KQ hHeld
                                          try simp only [List.setIfInBounds_toArray, List.set_cons_zero, List.set_cons_succ]
                                          revert HK1
                                          generalize w.alloc _ = wN
                                          generalize w.heap.size = gA
                                          intro HK1
                                          have HKN : Hid (KS W wN (bx 9 gA [.string s] :: bx 5 gC [.int .u8 (m : Int)] :: bx 61 g6 [.string s, .bool false, .int .i64 (m : Int)] :: bx 28 g8 [.slice none 0 0, .slice none 0 0, .slice none 0 0, .slice none 0 0, .slice none 0 0, .slice none 0 0, .int .u8 0] :: ⟨9, 1, .slice a1 n1 c1, n1, rp n1 [.string s]⟩ :: ⟨61, 3, .slice a2 n2 c2, n2, rp n2 [.string s, .bool false, .int .i64 (m : Int)]⟩ :: ⟨5, 1, .slice a3 n3 c3, n3, rp n3 [.int .u8 (m : Int)]⟩ :: R) (H)) := HK1
                                          refine listed_to (l' := #[true, true, true, true, false, true, true, true, false, false, true, true, true, true, false, true, false, false]) (by kernel_rfl) ?_
                                          obtain ⟨dgB, _⟩ : ∃ n : Nat, n = n := ⟨0, rfl⟩
                                          obtain ⟨daA, _⟩ : ∃ n : Option Addr, n = n := ⟨none, rfl⟩
                                          obtain ⟨daB, _⟩ : ∃ n : Option Addr, n = n := ⟨none, rfl⟩
                                          obtain ⟨daC, _⟩ : ∃ n : Option Addr, n = n := ⟨none, rfl⟩
                                          obtain ⟨dcA, _⟩ : ∃ n : Nat, n = n := ⟨0, rfl⟩
                                          obtain ⟨dcB, _⟩ : ∃ n : Nat, n = n := ⟨0, rfl⟩
                                          obtain ⟨dcC, _⟩ : ∃ n : Nat, n = n := ⟨0, rfl⟩
                                          exact st3_13 wN gA dgB gC daA daB daC dcA dcB dcC HKN
                                        · go_simp
                                          have HK1 := hid (HK.out.boxAt 0 (by simp) 61 [.string s, .bool false, .int .i64 (m : Int)])
                                          refine hK.out _ _ (HK1.out.cel 2 rfl) (fun hHeld => ?_)
                                          clear hK KQ hHeld
                                          try simp only [List.setIfInBounds_toArray, List.set_cons_zero, List.set_cons_succ]
                                          revert HK1
                                          generalize w.alloc _ = wN
                                          generalize w.heap.size = gB
                                          intro HK1
                                          have HKN : Hid (KS W wN (bx 61 gB [.string s, .bool false, .int .i64 (m : Int)] :: bx 5 gC [.int .u8 (m : Int)] :: bx 61 g6 [.string s, .bool false, .int .i64 (m : Int)] :: bx 28 g8 [.slice none 0 0, .slice none 0 0, .slice none 0 0, .slice none 0 0, .slice none 0 0, .slice none 0 0, .int .u8 0] :: ⟨9, 1, .slice a1 n1 c1, n1, rp n1 [.string s]⟩ :: ⟨61, 3, .slice a2 n2 c2, n2, rp n2 [.string s, .bool false, .int .i64 (m : Int)]⟩ :: ⟨5, 1, .slice a3 n3 c3, n3, rp n3 [.int .u8 (m : Int)]⟩ :: R) (H)) := HK1
                                          refine listed_to (l' := #[true, true, true, false, false, true, true, true, true, false, true, true, true, true, false, true, false, false]) (by kernel_rfl) ?_
                                          obtain ⟨dgA, _⟩ : ∃ n : Nat, n = n := ⟨0, rfl⟩
                                          obtain ⟨daA, _⟩ : ∃ n : Option Addr, n = n := ⟨none, rfl⟩
                                          obtain ⟨daB, _⟩ : ∃ n : Option Addr, n = n := ⟨none, rfl⟩
                                          obtain ⟨daC, _⟩ : ∃ n : Option Addr, n = n := ⟨none, rfl⟩
                                          obtain ⟨dcA, _⟩ : ∃ n : Nat, n = n := ⟨0, rfl⟩
                                          obtain ⟨dcB, _⟩ : ∃ n : Nat, n = n := ⟨0, rfl⟩
                                          obtain ⟨dcC, _⟩ : ∃ n : Nat, n = n := ⟨0, rfl⟩
                                          exact st8_13 wN dgA gB gC daA daB daC dcA dcB dcC HKN
                                    · intro w gA gB gC aA aB aC cA cB cC HK
                                      have HK : Hid (KS W w (bx 9 gA [.string s] :: bx 61 g6 [.string s, .bool false, .int .i64 (m : Int)] :: bx 28 g8 [.slice none 0 0, .slice none 0 0, .slice none 0 0, .slice none 0 0, .slice none 0 0, .slice none 0 0, .int .u8 0] :: ⟨61, 3, .slice a2 n2 c2, n2, rp n2 [.string s, .bool false, .int .i64 (m : Int)]⟩ :: ⟨5, 1, .slice a3 n3 c3, n3, rp n3 [.int .u8 (m : Int)]⟩ :: R) (⟨9, 1, .slice a1 n1 c1, (.slice aA (n1 + 1) cA), n1, n1 + 1, [.string s]⟩ :: H)) := HK
                                      have hHeld : Cel w g6 61 [.string s, .bool false, .int .i64 (m : Int)] := HK.out.cel 1 rfl
                                      refine wpAnyH_ready (rs := [8, 13]) (by kernel_rfl) (by simp) (AllReadyH.cons (o := ⟨some 59, .buildSlice 25 1 #[(0, .tmp 58)], 25, "law.go:156", #[⟨7, .data⟩], none⟩) rfl (fun KQ hK => ?_) (AllReadyH.cons (o := ⟨some 64, .buildSlice 26 1 #[(0, .tmp 63)], 26, "law.go:156", #[⟨12, .data⟩], none⟩) rfl (fun KQ hK => ?_) AllReadyH.nil))
                                      · go_simp
                                        have HK1 := hid (HK.out.boxAt 1 (by simp) 61 [.string s, .bool false, .int .i64 (m : Int)])
                                        refine hK.out _ _ (HK1.out.cel 2 rfl) (fun hHeld => ?_)
                                        clear hK KQ hHeld
                                        try simp only [List.setIfInBounds_toArray, List.set_cons_zero, List.set_cons_succ]
                                        revert HK1
                                        generalize w.alloc _ = wN
                                        generalize w.heap.size = gB
                                        intro HK1
                                        have HKN : Hid (KS W wN (bx 9 gA [.string s] :: bx 61 gB [.string s, .bool false, .int .i64 (m : Int)] :: bx 61 g6 [.string s, .bool false, .int .i64 (m : Int)] :: bx 28 g8 [.slice none 0 0, .slice none 0 0, .slice none 0 0, .slice none 0 0, .slice none 0 0, .slice none 0 0, .int .u8 0] :: ⟨61, 3, .slice a2 n2 c2, n2, rp n2 [.string s, .bool false, .int .i64 (m : Int)]⟩ :: ⟨5, 1, .slice a3 n3 c3, n3, rp n3 [.int .u8 (m : Int)]⟩ :: R) (⟨9, 1, .slice a1 n1 c1, (.slice aA (n1 + 1) cA), n1, n1 + 1, [.string s]⟩ :: H)) := HK1
                                        refine listed_to (l' := #[true, true, true, true, true, true, true, true, true, false, true, true, true, false, false, true, false, false]) (by kernel_rfl) ?_
                                        obtain ⟨dgC, _⟩ : ∃ n : Nat, n = n := ⟨0, rfl⟩
                                        obtain ⟨daB, _⟩ : ∃ n : Option Addr, n = n := ⟨none, rfl⟩
                                        obtain ⟨daC, _⟩ : ∃ n : Option Addr, n = n := ⟨none, rfl⟩
                                        obtain ⟨dcB, _⟩ : ∃ n : Nat, n = n := ⟨0, rfl⟩
                                        obtain ⟨dcC, _⟩ : ∃ n : Nat, n = n := ⟨0, rfl⟩
                                        exact st3_4_8 wN gA gB dgC aA daB daC cA dcB dcC HKN
                                      · go_simp
                                        have HK1 := hid (HK.out.boxAt 1 (by simp) 5 [.int .u8 (m : Int)])
                                        refine hK.out _ _ (HK1.out.cel 2 rfl) (fun hHeld => ?_)
                                        clear hK KQ hHeld
                                        try simp only [List.setIfInBounds_toArray, List.set_cons_zero, List.set_cons_succ]
                                        revert HK1
                                        generalize w.alloc _ = wN
                                        generalize w.heap.size = gC
                                        intro HK1
                                        have HKN : Hid (KS W wN (bx 9 gA [.string s] :: bx 5 gC [.int .u8 (m : Int)] :: bx 61 g6 [.string s, .bool false, .int .i64 (m : Int)] :: bx 28 g8 [.slice none 0 0, .slice none 0 0, .slice none 0 0, .slice none 0 0, .slice none 0 0, .slice none 0 0, .int .u8 0] :: ⟨61, 3, .slice a2 n2 c2, n2, rp n2 [.string s, .bool false, .int .i64 (m : Int)]⟩ :: ⟨5, 1, .slice a3 n3 c3, n3, rp n3 [.int .u8 (m : Int)]⟩ :: R) (⟨9, 1, .slice a1 n1 c1, (.slice aA (n1 + 1) cA), n1, n1 + 1, [.string s]⟩ :: H)) := HK1
                                        refine listed_to (l' := #[true, true, true, true, true, true, true, true, false, false, true, true, true, true, false, true, false, false]) (by kernel_rfl) ?_
                                        obtain ⟨dgB, _⟩ : ∃ n : Nat, n = n := ⟨0, rfl⟩
                                        obtain ⟨daB, _⟩ : ∃ n : Option Addr, n = n := ⟨none, rfl⟩
                                        obtain ⟨daC, _⟩ : ∃ n : Option Addr, n = n := ⟨none, rfl⟩
                                        obtain ⟨dcB, _⟩ : ∃ n : Nat, n = n := ⟨0, rfl⟩
                                        obtain ⟨dcC, _⟩ : ∃ n : Nat, n = n := ⟨0, rfl⟩
                                        exact st3_4_13 wN gA dgB gC aA daB daC cA dcB dcC HKN
                                  · intro w gA gB gC aA aB aC cA cB cC HK
                                    have HK : Hid (KS W w (bx 9 gA [.string s] :: bx 61 gB [.string s, .bool false, .int .i64 (m : Int)] :: bx 61 g6 [.string s, .bool false, .int .i64 (m : Int)] :: bx 28 g8 [.slice none 0 0, .slice none 0 0, .slice none 0 0, .slice none 0 0, .slice none 0 0, .slice none 0 0, .int .u8 0] :: ⟨9, 1, .slice a1 n1 c1, n1, rp n1 [.string s]⟩ :: ⟨61, 3, .slice a2 n2 c2, n2, rp n2 [.string s, .bool false, .int .i64 (m : Int)]⟩ :: ⟨5, 1, .slice a3 n3 c3, n3, rp n3 [.int .u8 (m : Int)]⟩ :: R) (H)) := HK
                                    have hHeld : Cel w g6 61 [.string s, .bool false, .int .i64 (m : Int)] := HK.out.cel 2 rfl
                                    refine wpAnyH_ready (rs := [4, 13]) (by kernel_rfl) (by simp) (AllReadyH.cons (o := ⟨some 55, .call { callee := .builtin .append, args := #[.tmp 52, .tmp 54], argTypes := #[24, 24] }, 24, "law.go:156", #[⟨1, .data⟩, ⟨3, .data⟩], none⟩) rfl (fun KQ hK => ?_) (AllReadyH.cons (o := ⟨some 64, .buildSlice 26 1 #[(0, .tmp 63)], 26, "law.go:156", #[⟨12, .data⟩], none⟩) rfl (fun KQ hK => ?_) AllReadyH.nil))
                                    · rw [if_pos (by rfl)]
                                      refine wp_append_s _ _ 24 9 rfl Tryz.underlying24 Tryz.info9 rfl (by decide) (by decide) rfl (HK.out.mem (i := 4) rfl) HK.out.below.size rfl (by rfl) (HK.out.cel 0 rfl).lie (by simp [Value.oneCell']) (by show n1 + 1 ≤ _; omega) ?_
                                      intro v2 wN hal
                                      obtain ⟨aA, cA, rfl⟩ := two_frm hal (by decide)
                                      have HKN : Hid (KS W wN (bx 9 gA [.string s] :: bx 61 gB [.string s, .bool false, .int .i64 (m : Int)] :: bx 61 g6 [.string s, .bool false, .int .i64 (m : Int)] :: bx 28 g8 [.slice none 0 0, .slice none 0 0, .slice none 0 0, .slice none 0 0, .slice none 0 0, .slice none 0 0, .int .u8 0] :: ⟨61, 3, .slice a2 n2 c2, n2, rp n2 [.string s, .bool false, .int .i64 (m : Int)]⟩ :: ⟨5, 1, .slice a3 n3 c3, n3, rp n3 [.int .u8 (m : Int)]⟩ :: R) (⟨9, 1, .slice a1 n1 c1, (.slice aA (n1 + 1) cA), n1, n1 + 1, [.string s]⟩ :: H)) := hid ((HK.out.keepAt 4 rfl rfl hal).hsub (by intro x hx; simp only [List.mem_cons] at hx ⊢; rcases hx with hx | hx <;> first | exact .inl hx | exact .inr (hx)))
                                      refine hK.out _ _ (HKN.out.cel 2 rfl) (fun hHeld => ?_)
                                      clear hK KQ hHeld
                                      try simp only [Act.put, List.setIfInBounds_toArray, List.set_cons_zero, List.set_cons_succ]
                                      refine listed_to (l' := #[true, true, true, true, true, true, true, true, true, false, true, true, true, false, false, true, false, false]) (by kernel_rfl) ?_
                                      obtain ⟨dgC, _⟩ : ∃ n : Nat, n = n := ⟨0, rfl⟩
                                      obtain ⟨daB, _⟩ : ∃ n : Option Addr, n = n := ⟨none, rfl⟩
                                      obtain ⟨daC, _⟩ : ∃ n : Option Addr, n = n := ⟨none, rfl⟩
                                      obtain ⟨dcB, _⟩ : ∃ n : Nat, n = n := ⟨0, rfl⟩
                                      obtain ⟨dcC, _⟩ : ∃ n : Nat, n = n := ⟨0, rfl⟩
                                      exact st3_4_8 wN gA gB dgC aA daB daC cA dcB dcC HKN
                                    · go_simp
                                      have HK1 := hid (HK.out.boxAt 2 (by simp) 5 [.int .u8 (m : Int)])
                                      refine hK.out _ _ (HK1.out.cel 3 rfl) (fun hHeld => ?_)
                                      clear hK KQ hHeld
                                      try simp only [List.setIfInBounds_toArray, List.set_cons_zero, List.set_cons_succ]
                                      revert HK1
                                      generalize w.alloc _ = wN
                                      generalize w.heap.size = gC
                                      intro HK1
                                      have HKN : Hid (KS W wN (bx 9 gA [.string s] :: bx 61 gB [.string s, .bool false, .int .i64 (m : Int)] :: bx 5 gC [.int .u8 (m : Int)] :: bx 61 g6 [.string s, .bool false, .int .i64 (m : Int)] :: bx 28 g8 [.slice none 0 0, .slice none 0 0, .slice none 0 0, .slice none 0 0, .slice none 0 0, .slice none 0 0, .int .u8 0] :: ⟨9, 1, .slice a1 n1 c1, n1, rp n1 [.string s]⟩ :: ⟨61, 3, .slice a2 n2 c2, n2, rp n2 [.string s, .bool false, .int .i64 (m : Int)]⟩ :: ⟨5, 1, .slice a3 n3 c3, n3, rp n3 [.int .u8 (m : Int)]⟩ :: R) (H)) := HK1
                                      refine listed_to (l' := #[true, true, true, true, false, true, true, true, true, false, true, true, true, true, false, true, false, false]) (by kernel_rfl) ?_
                                      obtain ⟨daA, _⟩ : ∃ n : Option Addr, n = n := ⟨none, rfl⟩
                                      obtain ⟨daB, _⟩ : ∃ n : Option Addr, n = n := ⟨none, rfl⟩
                                      obtain ⟨daC, _⟩ : ∃ n : Option Addr, n = n := ⟨none, rfl⟩
                                      obtain ⟨dcA, _⟩ : ∃ n : Nat, n = n := ⟨0, rfl⟩
                                      obtain ⟨dcB, _⟩ : ∃ n : Nat, n = n := ⟨0, rfl⟩
                                      obtain ⟨dcC, _⟩ : ∃ n : Nat, n = n := ⟨0, rfl⟩
                                      exact st3_8_13 wN gA gB gC daA daB daC dcA dcB dcC HKN
                                · intro w gA gB gC aA aB aC cA cB cC HK
                                  have HK : Hid (KS W w (bx 9 gA [.string s] :: bx 5 gC [.int .u8 (m : Int)] :: bx 61 g6 [.string s, .bool false, .int .i64 (m : Int)] :: bx 28 g8 [.slice none 0 0, .slice none 0 0, .slice none 0 0, .slice none 0 0, .slice none 0 0, .slice none 0 0, .int .u8 0] :: ⟨9, 1, .slice a1 n1 c1, n1, rp n1 [.string s]⟩ :: ⟨61, 3, .slice a2 n2 c2, n2, rp n2 [.string s, .bool false, .int .i64 (m : Int)]⟩ :: ⟨5, 1, .slice a3 n3 c3, n3, rp n3 [.int .u8 (m : Int)]⟩ :: R) (H)) := HK
                                  have hHeld : Cel w g6 61 [.string s, .bool false, .int .i64 (m : Int)] := HK.out.cel 2 rfl
                                  refine wpAnyH_ready (rs := [4, 8]) (by kernel_rfl) (by simp) (AllReadyH.cons (o := ⟨some 55, .call { callee := .builtin .append, args := #[.tmp 52, .tmp 54], argTypes := #[24, 24] }, 24, "law.go:156", #[⟨1, .data⟩, ⟨3, .data⟩], none⟩) rfl (fun KQ hK => ?_) (AllReadyH.cons (o := ⟨some 59, .buildSlice 25 1 #[(0, .tmp 58)], 25, "law.go:156", #[⟨7, .data⟩], none⟩) rfl (fun KQ hK => ?_) AllReadyH.nil))
                                  · rw [if_pos (by rfl)]
                                    refine wp_append_s _ _ 24 9 rfl Tryz.underlying24 Tryz.info9 rfl (by decide) (by decide) rfl (HK.out.mem (i := 4) rfl) HK.out.below.size rfl (by rfl) (HK.out.cel 0 rfl).lie (by simp [Value.oneCell']) (by show n1 + 1 ≤ _; omega) ?_
                                    intro v2 wN hal
                                    obtain ⟨aA, cA, rfl⟩ := two_frm hal (by decide)
                                    have HKN : Hid (KS W wN (bx 9 gA [.string s] :: bx 5 gC [.int .u8 (m : Int)] :: bx 61 g6 [.string s, .bool false, .int .i64 (m : Int)] :: bx 28 g8 [.slice none 0 0, .slice none 0 0, .slice none 0 0, .slice none 0 0, .slice none 0 0, .slice none 0 0, .int .u8 0] :: ⟨61, 3, .slice a2 n2 c2, n2, rp n2 [.string s, .bool false, .int .i64 (m : Int)]⟩ :: ⟨5, 1, .slice a3 n3 c3, n3, rp n3 [.int .u8 (m : Int)]⟩ :: R) (⟨9, 1, .slice a1 n1 c1, (.slice aA (n1 + 1) cA), n1, n1 + 1, [.string s]⟩ :: H)) := hid ((HK.out.keepAt 4 rfl rfl hal).hsub (by intro x hx; simp only [List.mem_cons] at hx ⊢; rcases hx with hx | hx <;> first | exact .inl hx | exact .inr (hx)))
                                    refine hK.out _ _ (HKN.out.cel 2 rfl) (fun hHeld => ?_)
                                    clear hK KQ hHeld
                                    try simp only [Act.put, List.setIfInBounds_toArray, List.set_cons_zero, List.set_cons_succ]
                                    refine listed_to (l' := #[true, true, true, true, true, true, true, true, false, false, true, true, true, true, false, true, false, false]) (by kernel_rfl) ?_
                                    obtain ⟨dgB, _⟩ : ∃ n : Nat, n = n := ⟨0, rfl⟩
                                    obtain ⟨daB, _⟩ : ∃ n : Option Addr, n = n := ⟨none, rfl⟩
                                    obtain ⟨daC, _⟩ : ∃ n : Option Addr, n = n := ⟨none, rfl⟩
                                    obtain ⟨dcB, _⟩ : ∃ n : Nat, n = n := ⟨0, rfl⟩
                                    obtain ⟨dcC, _⟩ : ∃ n : Nat, n = n := ⟨0, rfl⟩
                                    exact st3_4_13 wN gA dgB gC aA daB daC cA dcB dcC HKN
                                  · go_simp
                                    have HK1 := hid (HK.out.boxAt 1 (by simp) 61 [.string s, .bool false, .int .i64 (m : Int)])
                                    refine hK.out _ _ (HK1.out.cel 3 rfl) (fun hHeld => ?_)
                                    clear hK KQ hHeld
                                    try simp only [List.setIfInBounds_toArray, List.set_cons_zero, List.set_cons_succ]
                                    revert HK1
                                    generalize w.alloc _ = wN
                                    generalize w.heap.size = gB
                                    intro HK1
                                    have HKN : Hid (KS W wN (bx 9 gA [.string s] :: bx 61 gB [.string s, .bool false, .int .i64 (m : Int)] :: bx 5 gC [.int .u8 (m : Int)] :: bx 61 g6 [.string s, .bool false, .int .i64 (m : Int)] :: bx 28 g8 [.slice none 0 0, .slice none 0 0, .slice none 0 0, .slice none 0 0, .slice none 0 0, .slice none 0 0, .int .u8 0] :: ⟨9, 1, .slice a1 n1 c1, n1, rp n1 [.string s]⟩ :: ⟨61, 3, .slice a2 n2 c2, n2, rp n2 [.string s, .bool false, .int .i64 (m : Int)]⟩ :: ⟨5, 1, .slice a3 n3 c3, n3, rp n3 [.int .u8 (m : Int)]⟩ :: R) (H)) := HK1
                                    refine listed_to (l' := #[true, true, true, true, false, true, true, true, true, false, true, true, true, true, false, true, false, false]) (by kernel_rfl) ?_
                                    obtain ⟨daA, _⟩ : ∃ n : Option Addr, n = n := ⟨none, rfl⟩
                                    obtain ⟨daB, _⟩ : ∃ n : Option Addr, n = n := ⟨none, rfl⟩
                                    obtain ⟨daC, _⟩ : ∃ n : Option Addr, n = n := ⟨none, rfl⟩
                                    obtain ⟨dcA, _⟩ : ∃ n : Nat, n = n := ⟨0, rfl⟩
                                    obtain ⟨dcB, _⟩ : ∃ n : Nat, n = n := ⟨0, rfl⟩
                                    obtain ⟨dcC, _⟩ : ∃ n : Nat, n = n := ⟨0, rfl⟩
                                    exact st3_8_13 wN gA gB gC daA daB daC dcA dcB dcC HKN
                              · intro w gA gB gC aA aB aC cA cB cC HK
                                have HK : Hid (KS W w (bx 61 gB [.string s, .bool false, .int .i64 (m : Int)] :: bx 5 gC [.int .u8 (m : Int)] :: bx 61 g6 [.string s, .bool false, .int .i64 (m : Int)] :: bx 28 g8 [.slice none 0 0, .slice none 0 0, .slice none 0 0, .slice none 0 0, .slice none 0 0, .slice none 0 0, .int .u8 0] :: ⟨9, 1, .slice a1 n1 c1, n1, rp n1 [.string s]⟩ :: ⟨61, 3, .slice a2 n2 c2, n2, rp n2 [.string s, .bool false, .int .i64 (m : Int)]⟩ :: ⟨5, 1, .slice a3 n3 c3, n3, rp n3 [.int .u8 (m : Int)]⟩ :: R) (H)) := HK
                                have hHeld : Cel w g6 61 [.string s, .bool false, .int .i64 (m : Int)] := HK.out.cel 2 rfl
                                refine wpAnyH_ready (rs := [3]) (by kernel_rfl) (by simp) (AllReadyH.cons (o := ⟨some 54, .buildSlice 24 1 #[(0, .tmp 53)], 24, "law.go:156", #[⟨2, .data⟩], none⟩) rfl (fun KQ hK => ?_) AllReadyH.nil)
                                · go_simp
                                  have HK1 := hid (HK.out.boxAt 0 (by simp) 9 [.string s])
                                  refine hK.out _ _ (HK1.out.cel 3 rfl) (fun hHeld => ?_)
                                  clear hK KQ hHeld
                                  try simp only [List.setIfInBounds_toArray, List.set_cons_zero, List.set_cons_succ]
                                  revert HK1
                                  generalize w.alloc _ = wN
                                  generalize w.heap.size = gA
                                  intro HK1
                                  have HKN : Hid (KS W wN (bx 9 gA [.string s] :: bx 61 gB [.string s, .bool false, .int .i64 (m : Int)] :: bx 5 gC [.int .u8 (m : Int)] :: bx 61 g6 [.string s, .bool false, .int .i64 (m : Int)] :: bx 28 g8 [.slice none 0 0, .slice none 0 0, .slice none 0 0, .slice none 0 0, .slice none 0 0, .slice none 0 0, .int .u8 0] :: ⟨9, 1, .slice a1 n1 c1, n1, rp n1 [.string s]⟩ :: ⟨61, 3, .slice a2 n2 c2, n2, rp n2 [.string s, .bool false, .int .i64 (m : Int)]⟩ :: ⟨5, 1, .slice a3 n3 c3, n3, rp n3 [.int .u8 (m : Int)]⟩ :: R) (H)) := HK1
                                  refine listed_to (l' := #[true, true, true, true, false, true, true, true, true, false, true, true, true, true, false, true, false, false]) (by kernel_rfl) ?_
                                  obtain ⟨daA, _⟩ : ∃ n : Option Addr, n = n := ⟨none, rfl⟩
                                  obtain ⟨daB, _⟩ : ∃ n : Option Addr, n = n := ⟨none, rfl⟩
                                  obtain ⟨daC, _⟩ : ∃ n : Option Addr, n = n := ⟨none, rfl⟩
                                  obtain ⟨dcA, _⟩ : ∃ n : Nat, n = n := ⟨0, rfl⟩
                                  obtain ⟨dcB, _⟩ : ∃ n : Nat, n = n := ⟨0, rfl⟩
                                  obtain ⟨dcC, _⟩ : ∃ n : Nat, n = n := ⟨0, rfl⟩
                                  exact st3_8_13 wN gA gB gC daA daB daC dcA dcB dcC HKN
                            · intro w gA gB gC aA aB aC cA cB cC HK
                              have HK : Hid (KS W w (bx 9 gA [.string s] :: bx 61 gB [.string s, .bool false, .int .i64 (m : Int)] :: bx 61 g6 [.string s, .bool false, .int .i64 (m : Int)] :: bx 28 g8 [.slice none 0 0, .slice none 0 0, .slice none 0 0, .slice none 0 0, .slice none 0 0, .slice none 0 0, .int .u8 0] :: ⟨61, 3, .slice a2 n2 c2, n2, rp n2 [.string s, .bool false, .int .i64 (m : Int)]⟩ :: ⟨5, 1, .slice a3 n3 c3, n3, rp n3 [.int .u8 (m : Int)]⟩ :: R) (⟨9, 1, .slice a1 n1 c1, (.slice aA (n1 + 1) cA), n1, n1 + 1, [.string s]⟩ :: H)) := HK
                              have hHeld : Cel w g6 61 [.string s, .bool false, .int .i64 (m : Int)] := HK.out.cel 2 rfl
                              refine wpAnyH_ready (rs := [9, 13]) (by kernel_rfl) (by simp) (AllReadyH.cons (o := ⟨some 60, .call { callee := .builtin .append, args := #[.tmp 57, .tmp 59], argTypes := #[25, 25] }, 25, "law.go:156", #[⟨6, .data⟩, ⟨8, .data⟩, ⟨4, .chain⟩], none⟩) rfl (fun KQ hK => ?_) (AllReadyH.cons (o := ⟨some 64, .buildSlice 26 1 #[(0, .tmp 63)], 26, "law.go:156", #[⟨12, .data⟩], none⟩) rfl (fun KQ hK => ?_) AllReadyH.nil))
                              · rw [if_pos (by rfl)]
                                refine wp_append_s _ _ 25 61 rfl Tryz.underlying25 Tryz.info61 rfl (by decide) (by decide) rfl (HK.out.mem (i := 4) rfl) HK.out.below.size rfl (by rfl) (HK.out.cel 1 rfl).lie (by simp [Value.oneCell']) (by show n2 + 1 ≤ _; omega) ?_
                                intro v2 wN hal
                                obtain ⟨aB, cB, rfl⟩ := two_frm hal (by decide)
                                have HKN : Hid (KS W wN (bx 9 gA [.string s] :: bx 61 gB [.string s, .bool false, .int .i64 (m : Int)] :: bx 61 g6 [.string s, .bool false, .int .i64 (m : Int)] :: bx 28 g8 [.slice none 0 0, .slice none 0 0, .slice none 0 0, .slice none 0 0, .slice none 0 0, .slice none 0 0, .int .u8 0] :: ⟨5, 1, .slice a3 n3 c3, n3, rp n3 [.int .u8 (m : Int)]⟩ :: R) (⟨9, 1, .slice a1 n1 c1, (.slice aA (n1 + 1) cA), n1, n1 + 1, [.string s]⟩ :: ⟨61, 3, .slice a2 n2 c2, (.slice aB (n2 + 1) cB), n2, n2 + 1, [.string s, .bool false, .int .i64 (m : Int)]⟩ :: H)) := hid ((HK.out.keepAt 4 rfl rfl hal).hsub (by intro x hx; simp only [List.mem_cons] at hx ⊢; rcases hx with hx | hx | hx <;> first | exact .inl hx | exact .inr (.inl hx) | exact .inr (.inr (hx))))
                                refine hK.out _ _ (HKN.out.cel 2 rfl) (fun hHeld => ?_)
                                clear hK KQ hHeld
                                try simp only [Act.put, List.setIfInBounds_toArray, List.set_cons_zero, List.set_cons_succ]
                                refine listed_to (l' := #[true, true, true, true, true, true, true, true, true, true, true, true, true, false, false, true, false, false]) (by kernel_rfl) ?_
                                obtain ⟨dgC, _⟩ : ∃ n : Nat, n = n := ⟨0, rfl⟩
                                obtain ⟨daC, _⟩ : ∃ n : Option Addr, n = n := ⟨none, rfl⟩
                                obtain ⟨dcC, _⟩ : ∃ n : Nat, n = n := ⟨0, rfl⟩
                                exact st3_4_8_9 wN gA gB dgC aA aB daC cA cB dcC HKN
                              · go_simp
                                have HK1 := hid (HK.out.boxAt 2 (by simp) 5 [.int .u8 (m : Int)])
                                refine hK.out _ _ (HK1.out.cel 3 rfl) (fun hHeld => ?_)
                                clear hK KQ hHeld
                                try simp only [List.setIfInBounds_toArray, List.set_cons_zero, List.set_cons_succ]
                                revert HK1
                                generalize w.alloc _ = wN
                                generalize w.heap.size = gC
                                intro HK1
                                have HKN : Hid (KS W wN (bx 9 gA [.string s] :: bx 61 gB [.string s, .bool false, .int .i64 (m : Int)] :: bx 5 gC [.int .u8 (m : Int)] :: bx 61 g6 [.string s, .bool false, .int .i64 (m : Int)] :: bx 28 g8 [.slice none 0 0, .slice none 0 0, .slice none 0 0, .slice none 0 0, .slice none 0 0, .slice none 0 0, .int .u8 0] :: ⟨61, 3, .slice a2 n2 c2, n2, rp n2 [.string s, .bool false, .int .i64 (m : Int)]⟩ :: ⟨5, 1, .slice a3 n3 c3, n3, rp n3 [.int .u8 (m : Int)]⟩ :: R) (⟨9, 1, .slice a1 n1 c1, (.slice aA (n1 + 1) cA), n1, n1 + 1, [.string s]⟩ :: H)) := HK1
                                refine listed_to (l' := #[true, true, true, true, true, true, true, true, true, false, true, true, true, true, false, true, false, false]) (by kernel_rfl) ?_
                                obtain ⟨daB, _⟩ : ∃ n : Option Addr, n = n := ⟨none, rfl⟩
                                obtain ⟨daC, _⟩ : ∃ n : Option Addr, n = n := ⟨none, rfl⟩
                                obtain ⟨dcB, _⟩ : ∃ n : Nat, n = n := ⟨0, rfl⟩
                                obtain ⟨dcC, _⟩ : ∃ n : Nat, n = n := ⟨0, rfl⟩
                                exact st3_4_8_13 wN gA gB gC aA daB daC cA dcB dcC HKN
                          · intro w gA gB gC aA aB aC cA cB cC HK
                            have HK : Hid (KS W w (bx 9 gA [.string s] :: bx 5 gC [.int .u8 (m : Int)] :: bx 61 g6 [.string s, .bool false, .int .i64 (m : Int)] :: bx 28 g8 [.slice none 0 0, .slice none 0 0, .slice none 0 0, .slice none 0 0, .slice none 0 0, .slice none 0 0, .int .u8 0] :: ⟨61, 3, .slice a2 n2 c2, n2, rp n2 [.string s, .bool false, .int .i64 (m : Int)]⟩ :: ⟨5, 1, .slice a3 n3 c3, n3, rp n3 [.int .u8 (m : Int)]⟩ :: R) (⟨9, 1, .slice a1 n1 c1, (.slice aA (n1 + 1) cA), n1, n1 + 1, [.string s]⟩ :: H)) := HK
                            have hHeld : Cel w g6 61 [.string s, .bool false, .int .i64 (m : Int)] := HK.out.cel 2 rfl
                            refine wpAnyH_ready (rs := [8]) (by kernel_rfl) (by simp) (AllReadyH.cons (o := ⟨some 59, .buildSlice 25 1 #[(0, .tmp 58)], 25, "law.go:156", #[⟨7, .data⟩], none⟩) rfl (fun KQ hK => ?_) AllReadyH.nil)
                            · go_simp
                              have HK1 := hid (HK.out.boxAt 1 (by simp) 61 [.string s, .bool false, .int .i64 (m : Int)])
                              refine hK.out _ _ (HK1.out.cel 3 rfl) (fun hHeld => ?_)
                              clear hK KQ hHeld
                              try simp only [List.setIfInBounds_toArray, List.set_cons_zero, List.set_cons_succ]
                              revert HK1
                              generalize w.alloc _ = wN
                              generalize w.heap.size = gB
                              intro HK1
                              have HKN : Hid (KS W wN (bx 9 gA [.string s] :: bx 61 gB [.string s, .bool false, .int .i64 (m : Int)] :: bx 5 gC [.int .u8 (m : Int)] :: bx 61 g6 [.string s, .bool false, .int .i64 (m : Int)] :: bx 28 g8 [.slice none 0 0, .slice none 0 0, .slice none 0 0, .slice none 0 0, .slice none 0 0, .slice none 0 0, .int .u8 0] :: ⟨61, 3, .slice a2 n2 c2, n2, rp n2 [.string s, .bool false, .int .i64 (m : Int)]⟩ :: ⟨5, 1, .slice a3 n3 c3, n3, rp n3 [.int .u8 (m : Int)]⟩ :: R) (⟨9, 1, .slice a1 n1 c1, (.slice aA (n1 + 1) cA), n1, n1 + 1, [.string s]⟩ :: H)) := HK1
                              refine listed_to (l' := #[true, true, true, true, true, true, true, true, true, false, true, true, true, true, false, true, false, false]) (by kernel_rfl) ?_
                              obtain ⟨daB, _⟩ : ∃ n : Option Addr, n = n := ⟨none, rfl⟩
                              obtain ⟨daC, _⟩ : ∃ n : Option Addr, n = n := ⟨none, rfl⟩
                              obtain ⟨dcB, _⟩ : ∃ n : Nat, n = n := ⟨0, rfl⟩
                              obtain ⟨dcC, _⟩ : ∃ n : Nat, n = n := ⟨0, rfl⟩
                              exact st3_4_8_13 wN gA gB gC aA daB daC cA dcB dcC HKN
                        · intro w gA gB gC aA aB aC cA cB cC HK
                          have HK : Hid (KS W w (bx 9 gA [.string s] :: bx 61 gB [.string s, .bool false, .int .i64 (m : Int)] :: bx 5 gC [.int .u8 (m : Int)] :: bx 61 g6 [.string s, .bool false, .int .i64 (m : Int)] :: bx 28 g8 [.slice none 0 0, .slice none 0 0, .slice none 0 0, .slice none 0 0, .slice none 0 0, .slice none 0 0, .int .u8 0] :: ⟨9, 1, .slice a1 n1 c1, n1, rp n1 [.string s]⟩ :: ⟨61, 3, .slice a2 n2 c2, n2, rp n2 [.string s, .bool false, .int .i64 (m : Int)]⟩ :: ⟨5, 1, .slice a3 n3 c3, n3, rp n3 [.int .u8 (m : Int)]⟩ :: R) (H)) := HK
                          have hHeld : Cel w g6 61 [.string s, .bool false, .int .i64 (m : Int)] := HK.out.cel 3 rfl
                          refine wpAnyH_ready (rs := [4]) (by kernel_rfl) (by simp) (AllReadyH.cons (o := ⟨some 55, .call { callee := .builtin .append, args := #[.tmp 52, .tmp 54], argTypes := #[24, 24] }, 24, "law.go:156", #[⟨1, .data⟩, ⟨3, .data⟩], none⟩) rfl (fun KQ hK => ?_) AllReadyH.nil)
                          · rw [if_pos (by rfl)]
                            refine wp_append_s _ _ 24 9 rfl Tryz.underlying24 Tryz.info9 rfl (by decide) (by decide) rfl (HK.out.mem (i := 5) rfl) HK.out.below.size rfl (by rfl) (HK.out.cel 0 rfl).lie (by simp [Value.oneCell']) (by show n1 + 1 ≤ _; omega) ?_
                            intro v2 wN hal
                            obtain ⟨aA, cA, rfl⟩ := two_frm hal (by decide)
                            have HKN : Hid (KS W wN (bx 9 gA [.string s] :: bx 61 gB [.string s, .bool false, .int .i64 (m : Int)] :: bx 5 gC [.int .u8 (m : Int)] :: bx 61 g6 [.string s, .bool false, .int .i64 (m : Int)] :: bx 28 g8 [.slice none 0 0, .slice none 0 0, .slice none 0 0, .slice none 0 0, .slice none 0 0, .slice none 0 0, .int .u8 0] :: ⟨61, 3, .slice a2 n2 c2, n2, rp n2 [.string s, .bool false, .int .i64 (m : Int)]⟩ :: ⟨5, 1, .slice a3 n3 c3, n3, rp n3 [.int .u8 (m : Int)]⟩ :: R) (⟨9, 1, .slice a1 n1 c1, (.slice aA (n1 + 1) cA), n1, n1 + 1, [.string s]⟩ :: H)) := hid ((HK.out.keepAt 5 rfl rfl hal).hsub (by intro x hx; simp only [List.mem_cons] at hx ⊢; rcases hx with hx | hx <;> first | exact .inl hx | exact .inr (hx)))
                            refine hK.out _ _ (HKN.out.cel 3 rfl) (fun hHeld => ?_)
                            clear hK KQ hHeld
                            try simp only [Act.put, List.setIfInBounds_toArray, List.set_cons_zero, List.set_cons_succ]
                            refine listed_to (l' := #[true, true, true, true, true, true, true, true, true, false, true, true, true, true, false, true, false, false]) (by kernel_rfl) ?_
                            obtain ⟨daB, _⟩ : ∃ n : Option Addr, n = n := ⟨none, rfl⟩
                            obtain ⟨daC, _⟩ : ∃ n : Option Addr, n = n := ⟨none, rfl⟩
                            obtain ⟨dcB, _⟩ : ∃ n : Nat, n = n := ⟨0, rfl⟩
                            obtain ⟨dcC, _⟩ : ∃ n : Nat, n = n := ⟨0, rfl⟩
                            exact st3_4_8_13 wN gA gB gC aA daB daC cA dcB dcC HKN
                      · intro w gA gB gC aA aB aC cA cB cC HK
                        have HK : Hid (KS W w (bx 9 gA [.string s] :: bx 61 gB [.string s, .bool false, .int .i64 (m : Int)] :: bx 61 g6 [.string s, .bool false, .int .i64 (m : Int)] :: bx 28 g8 [.slice none 0 0, .slice none 0 0, .slice none 0 0, .slice none 0 0, .slice none 0 0, .slice none 0 0, .int .u8 0] :: ⟨5, 1, .slice a3 n3 c3, n3, rp n3 [.int .u8 (m : Int)]⟩ :: R) (⟨9, 1, .slice a1 n1 c1, (.slice aA (n1 + 1) cA), n1, n1 + 1, [.string s]⟩ :: ⟨61, 3, .slice a2 n2 c2, (.slice aB (n2 + 1) cB), n2, n2 + 1, [.string s, .bool false, .int .i64 (m : Int)]⟩ :: H)) := HK
                        have hHeld : Cel w g6 61 [.string s, .bool false, .int .i64 (m : Int)] := HK.out.cel 2 rfl
                        refine wpAnyH_ready (rs := [13]) (by kernel_rfl) (by simp) (AllReadyH.cons (o := ⟨some 64, .buildSlice 26 1 #[(0, .tmp 63)], 26, "law.go:156", #[⟨12, .data⟩], none⟩) rfl (fun KQ hK => ?_) AllReadyH.nil)
                        · go_simp
                          have HK1 := hid (HK.out.boxAt 2 (by simp) 5 [.int .u8 (m : Int)])
                          refine hK.out _ _ (HK1.out.cel 3 rfl) (fun hHeld => ?_)
                          clear hK KQ hHeld
                          try simp only [List.setIfInBounds_toArray, List.set_cons_zero, List.set_cons_succ]
                          revert HK1
                          generalize w.alloc _ = wN
                          generalize w.heap.size = gC
                          intro HK1
                          have HKN : Hid (KS W wN (bx 9 gA [.string s] :: bx 61 gB [.string s, .bool false, .int .i64 (m : Int)] :: bx 5 gC [.int .u8 (m : Int)] :: bx 61 g6 [.string s, .bool false, .int .i64 (m : Int)] :: bx 28 g8 [.slice none 0 0, .slice none 0 0, .slice none 0 0, .slice none 0 0, .slice none 0 0, .slice none 0 0, .int .u8 0] :: ⟨5, 1, .slice a3 n3 c3, n3, rp n3 [.int .u8 (m : Int)]⟩ :: R) (⟨9, 1, .slice a1 n1 c1, (.slice aA (n1 + 1) cA), n1, n1 + 1, [.string s]⟩ :: ⟨61, 3, .slice a2 n2 c2, (.slice aB (n2 + 1) cB), n2, n2 + 1, [.string s, .bool false, .int .i64 (m : Int)]⟩ :: H)) := HK1
                          refine listed_to (l' := #[true, true, true, true, true, true, true, true, true, true, true, true, true, true, false, true, false, false]) (by kernel_rfl) ?_
                          obtain ⟨daC, _⟩ : ∃ n : Option Addr, n = n := ⟨none, rfl⟩
                          obtain ⟨dcC, _⟩ : ∃ n : Nat, n = n := ⟨0, rfl⟩
                          exact st3_4_8_9_13 wN gA gB gC aA aB daC cA cB dcC HKN
                    · intro w gA gB gC aA aB aC cA cB cC HK
                      have HK : Hid (KS W w (bx 9 gA [.string s] :: bx 61 gB [.string s, .bool false, .int .i64 (m : Int)] :: bx 5 gC [.int .u8 (m : Int)] :: bx 61 g6 [.string s, .bool false, .int .i64 (m : Int)] :: bx 28 g8 [.slice none 0 0, .slice none 0 0, .slice none 0 0, .slice none 0 0, .slice none 0 0, .slice none 0 0, .int .u8 0] :: ⟨61, 3, .slice a2 n2 c2, n2, rp n2 [.string s, .bool false, .int .i64 (m : Int)]⟩ :: ⟨5, 1, .slice a3 n3 c3, n3, rp n3 [.int .u8 (m : Int)]⟩ :: R) (⟨9, 1, .slice a1 n1 c1, (.slice aA (n1 + 1) cA), n1, n1 + 1, [.string s]⟩ :: H)) := HK
                      have hHeld : Cel w g6 61 [.string s, .bool false, .int .i64 (m : Int)] := HK.out.cel 3 rfl
                      refine wpAnyH_ready (rs := [9]) (by kernel_rfl) (by simp) (AllReadyH.cons (o := ⟨some 60, .call { callee := .builtin .append, args := #[.tmp 57, .tmp 59], argTypes := #[25, 25] }, 25, "law.go:156", #[⟨6, .data⟩, ⟨8, .data⟩, ⟨4, .chain⟩], none⟩) rfl (fun KQ hK => ?_) AllReadyH.nil)
                      · rw [if_pos (by rfl)]
                        refine wp_append_s _ _ 25 61 rfl Tryz.underlying25 Tryz.info61 rfl (by decide) (by decide) rfl (HK.out.mem (i := 5) rfl) HK.out.below.size rfl (by rfl) (HK.out.cel 1 rfl).lie (by simp [Value.oneCell']) (by show n2 + 1 ≤ _; omega) ?_
                        intro v2 wN hal
                        obtain ⟨aB, cB, rfl⟩ := two_frm hal (by decide)
                        have HKN : Hid (KS W wN (bx 9 gA [.string s] :: bx 61 gB [.string s, .bool false, .int .i64 (m : Int)] :: bx 5 gC [.int .u8 (m : Int)] :: bx 61 g6 [.string s, .bool false, .int .i64 (m : Int)] :: bx 28 g8 [.slice none 0 0, .slice none 0 0, .slice none 0 0, .slice none 0 0, .slice none 0 0, .slice none 0 0, .int .u8 0] :: ⟨5, 1, .slice a3 n3 c3, n3, rp n3 [.int .u8 (m : Int)]⟩ :: R) (⟨9, 1, .slice a1 n1 c1, (.slice aA (n1 + 1) cA), n1, n1 + 1, [.string s]⟩ :: ⟨61, 3, .slice a2 n2 c2, (.slice aB (n2 + 1) cB), n2, n2 + 1, [.string s, .bool false, .int .i64 (m : Int)]⟩ :: H)) := hid ((HK.out.keepAt 5 rfl rfl hal).hsub (by intro x hx; simp only [List.mem_cons] at hx ⊢; rcases hx with hx | hx | hx <;> first | exact .inl hx | exact .inr (.inl hx) | exact .inr (.inr (hx))))
                        refine hK.out _ _ (HKN.out.cel 3 rfl) (fun hHeld => ?_)
                        clear hK KQ hHeld
                        try simp only [Act.put, List.setIfInBounds_toArray, List.set_cons_zero, List.set_cons_succ]
                        refine listed_to (l' := #[true, true, true, true, true, true, true, true, true, true, true, true, true, true, false, true, false, false]) (by kernel_rfl) ?_
                        obtain ⟨daC, _⟩ : ∃ n : Option Addr, n = n := ⟨none, rfl⟩
                        obtain ⟨dcC, _⟩ : ∃ n : Nat, n = n := ⟨0, rfl⟩
                        exact st3_4_8_9_13 wN gA gB gC aA aB daC cA cB dcC HKN
                  · intro w gA gB gC aA aB aC cA cB cC HK
                    have HK : Hid (KS W w (bx 9 gA [.string s] :: bx 61 gB [.string s, .bool false, .int .i64 (m : Int)] :: bx 5 gC [.int .u8 (m : Int)] :: bx 61 g6 [.string s, .bool false, .int .i64 (m : Int)] :: bx 28 g8 [.slice none 0 0, .slice none 0 0, .slice none 0 0, .slice none 0 0, .slice none 0 0, .slice none 0 0, .int .u8 0] :: ⟨5, 1, .slice a3 n3 c3, n3, rp n3 [.int .u8 (m : Int)]⟩ :: R) (⟨9, 1, .slice a1 n1 c1, (.slice aA (n1 + 1) cA), n1, n1 + 1, [.string s]⟩ :: ⟨61, 3, .slice a2 n2 c2, (.slice aB (n2 + 1) cB), n2, n2 + 1, [.string s, .bool false, .int .i64 (m : Int)]⟩ :: H)) := HK
                    have hHeld : Cel w g6 61 [.string s, .bool false, .int .i64 (m : Int)] := HK.out.cel 3 rfl
                    refine wpAnyH_ready (rs := [14]) (by kernel_rfl) (by simp) (AllReadyH.cons (o := ⟨some 65, .call { callee := .builtin .append, args := #[.tmp 62, .tmp 64], argTypes := #[26, 26] }, 26, "law.go:156", #[⟨11, .data⟩, ⟨13, .data⟩, ⟨9, .chain⟩], none⟩) rfl (fun KQ hK => ?_) AllReadyH.nil)
                    · rw [if_pos (by rfl)]
                      refine wp_append_s _ _ 26 5 rfl Tryz.underlying26 Tryz.info5 rfl (by decide) (by decide) rfl (HK.out.mem (i := 5) rfl) HK.out.below.size rfl (by rfl) (HK.out.cel 2 rfl).lie (by simp [Value.oneCell']) (by show n3 + 1 ≤ _; omega) ?_
                      intro v2 wN hal
                      obtain ⟨aC, cC, rfl⟩ := two_frm hal (by decide)
                      have HKN : Hid (KS W wN (bx 9 gA [.string s] :: bx 61 gB [.string s, .bool false, .int .i64 (m : Int)] :: bx 5 gC [.int .u8 (m : Int)] :: bx 61 g6 [.string s, .bool false, .int .i64 (m : Int)] :: bx 28 g8 [.slice none 0 0, .slice none 0 0, .slice none 0 0, .slice none 0 0, .slice none 0 0, .slice none 0 0, .int .u8 0] :: R) (⟨9, 1, .slice a1 n1 c1, (.slice aA (n1 + 1) cA), n1, n1 + 1, [.string s]⟩ :: ⟨61, 3, .slice a2 n2 c2, (.slice aB (n2 + 1) cB), n2, n2 + 1, [.string s, .bool false, .int .i64 (m : Int)]⟩ :: ⟨5, 1, .slice a3 n3 c3, (.slice aC (n3 + 1) cC), n3, n3 + 1, [.int .u8 (m : Int)]⟩ :: H)) := hid ((HK.out.keepAt 5 rfl rfl hal).hsub (by intro x hx; simp only [List.mem_cons] at hx ⊢; rcases hx with hx | hx | hx | hx <;> first | exact .inl hx | exact .inr (.inl hx) | exact .inr (.inr (.inl hx)) | exact .inr (.inr (.inr (hx)))))
                      refine hK.out _ _ (HKN.out.cel 3 rfl) (fun hHeld => ?_)
                      clear hK KQ hHeld
                      try simp only [Act.put, List.setIfInBounds_toArray, List.set_cons_zero, List.set_cons_succ]
                      refine listed_to (l' := #[true, true, true, true, true, true, true, true, true, true, true, true, true, true, true, true, false, false]) (by kernel_rfl) ?_
                      exact st3_4_8_9_13_14 wN gA gB gC aA aB aC cA cB cC HKN
                · intro w gA gB gC aA aB aC cA cB cC HK
                  have HK : Hid (KS W w (bx 9 gA [.string s] :: bx 61 gB [.string s, .bool false, .int .i64 (m : Int)] :: bx 5 gC [.int .u8 (m : Int)] :: bx 61 g6 [.string s, .bool false, .int .i64 (m : Int)] :: bx 28 g8 [.slice none 0 0, .slice none 0 0, .slice none 0 0, .slice none 0 0, .slice none 0 0, .slice none 0 0, .int .u8 0] :: R) (⟨9, 1, .slice a1 n1 c1, (.slice aA (n1 + 1) cA), n1, n1 + 1, [.string s]⟩ :: ⟨61, 3, .slice a2 n2 c2, (.slice aB (n2 + 1) cB), n2, n2 + 1, [.string s, .bool false, .int .i64 (m : Int)]⟩ :: ⟨5, 1, .slice a3 n3 c3, (.slice aC (n3 + 1) cC), n3, n3 + 1, [.int .u8 (m : Int)]⟩ :: H)) := HK
                  have hHeld : Cel w g6 61 [.string s, .bool false, .int .i64 (m : Int)] := HK.out.cel 3 rfl
                  refine tk 16 ⟨some 67, .build 28 #[(0, .tmp 51), (1, .tmp 55), (2, .tmp 56), (3, .tmp 60), (4, .tmp 61), (5, .tmp 65), (6, .tmp 66)], 28, "law.go:156", #[⟨0, .data⟩, ⟨4, .data⟩, ⟨5, .data⟩, ⟨9, .data⟩, ⟨10, .data⟩, ⟨14, .data⟩, ⟨15, .data⟩], none⟩ (.agg #[.slice a1 n1 c1, .slice aA (n1 + 1) cA, .slice a2 n2 c2, .slice aB (n2 + 1) cB, .slice a3 n3 c3, .slice aC (n3 + 1) cC, .int .u8 (m : Int)]) ?_
                  simp only [Act.put, List.setIfInBounds_toArray, List.set_cons_zero, List.set_cons_succ]
                  refine wpAnyH_ready (rs := [17]) (by kernel_rfl) (by simp) (AllReadyH.cons (o := ⟨none, .store 28 (.tmp 8) (.tmp 67), 0, "law.go:156", #[⟨16, .data⟩, ⟨14, .chain⟩, ⟨0, .phase⟩, ⟨1, .phase⟩, ⟨2, .phase⟩, ⟨3, .phase⟩, ⟨4, .phase⟩, ⟨5, .phase⟩, ⟨6, .phase⟩, ⟨7, .phase⟩, ⟨8, .phase⟩, ⟨9, .phase⟩, ⟨10, .phase⟩, ⟨11, .phase⟩, ⟨12, .phase⟩, ⟨13, .phase⟩, ⟨14, .phase⟩, ⟨15, .phase⟩, ⟨16, .phase⟩], none⟩) rfl (fun KQ hK => ?_) AllReadyH.nil)
                  · rw [if_pos (by rfl)]
                    refine wp_store_box 28 _ _ rfl g8 [.slice a1 n1 c1, .slice aA (n1 + 1) cA, .slice a2 n2 c2, .slice aB (n2 + 1) cB, .slice a3 n3 c3, .slice aC (n3 + 1) cC, .int .u8 (m : Int)] rfl rfl (HK.out.cel 4 rfl) (by rw [size28]; rfl) rfl (by simp [Value.oneCell']) ?_
                    have HK1 := hid (HK.out.put 4 rfl [.slice a1 n1 c1, .slice aA (n1 + 1) cA, .slice a2 n2 c2, .slice aB (n2 + 1) cB, .slice a3 n3 c3, .slice aC (n3 + 1) cC, .int .u8 (m : Int)])
                    refine hK.out _ _ (HK1.out.cel 3 rfl) (fun hHeld => ?_)
                    clear hK KQ hHeld
                    try simp only [Act.put, List.setIfInBounds_toArray, List.set_cons_zero, List.set_cons_succ]
                    revert HK1
                    generalize World.setRow w _ _ = wN
                    intro HK1
                    have HKN : Hid (KS W wN (bx 9 gA [.string s] :: bx 61 gB [.string s, .bool false, .int .i64 (m : Int)] :: bx 5 gC [.int .u8 (m : Int)] :: bx 61 g6 [.string s, .bool false, .int .i64 (m : Int)] :: bx 28 g8 [.slice a1 n1 c1, .slice aA (n1 + 1) cA, .slice a2 n2 c2, .slice aB (n2 + 1) cB, .slice a3 n3 c3, .slice aC (n3 + 1) cC, .int .u8 (m : Int)] :: R) (⟨9, 1, .slice a1 n1 c1, (.slice aA (n1 + 1) cA), n1, n1 + 1, [.string s]⟩ :: ⟨61, 3, .slice a2 n2 c2, (.slice aB (n2 + 1) cB), n2, n2 + 1, [.string s, .bool false, .int .i64 (m : Int)]⟩ :: ⟨5, 1, .slice a3 n3 c3, (.slice aC (n3 + 1) cC), n3, n3 + 1, [.int .u8 (m : Int)]⟩ :: H)) := HK1
                    refine listed_to (l' := #[true, true, true, true, true, true, true, true, true, true, true, true, true, true, true, true, true, true]) (by kernel_rfl) ?_
                    exact st3_4_8_9_13_14_17 wN gA gB gC aA aB aC cA cB cC HKN
              · intro w gA gB gC aA aB aC cA cB cC HK
                have HK : Hid (KS W w (bx 9 gA [.string s] :: bx 61 gB [.string s, .bool false, .int .i64 (m : Int)] :: bx 5 gC [.int .u8 (m : Int)] :: bx 61 g6 [.string s, .bool false, .int .i64 (m : Int)] :: bx 28 g8 [.slice a1 n1 c1, .slice aA (n1 + 1) cA, .slice a2 n2 c2, .slice aB (n2 + 1) cB, .slice a3 n3 c3, .slice aC (n3 + 1) cC, .int .u8 (m : Int)] :: R) (⟨9, 1, .slice a1 n1 c1, (.slice aA (n1 + 1) cA), n1, n1 + 1, [.string s]⟩ :: ⟨61, 3, .slice a2 n2 c2, (.slice aB (n2 + 1) cB), n2, n2 + 1, [.string s, .bool false, .int .i64 (m : Int)]⟩ :: ⟨5, 1, .slice a3 n3 c3, (.slice aC (n3 + 1) cC), n3, n3 + 1, [.int .u8 (m : Int)]⟩ :: H)) := HK
                have hHeld : Cel w g6 61 [.string s, .bool false, .int .i64 (m : Int)] := HK.out.cel 3 rfl
                refine wpAnyH_done (by kernel_rfl) ?_ _
                go_wp2_with fail
                refine bodyPost_ret (results_cell_row rfl _ _ g8 28 _ (0, 0) _ rfl (HK.out.cel 4 rfl) Tryz.underlying28 rfl (by rw [size28]; rfl)) rfl ⟨_, _, _, rfl, ?_⟩
                unfold mkw mkb
                rw [hs]
                exact HK.out.tail.tail.tail.tail.tail
end Go.Proofs.YtbjinmlelchmgaaGreatDoor
