import Derived.Test.YtildhjiddidghaaGreatDoorP32
import Derived.Test.YtildhjiddidghaaGreatDoorChecked
import Derived.WalkKit
import Derived.WalkSpells
import Derived.WalkLawsBesides
import Derived.Deep.QuietTactic
import Derived.BigQuiet
import Derived.BigRegion
import Derived.Handy
import Derived.Deep.RegionHeld3
import Derived.Deep.RegionWith
import Derived.Deep.DrawnRows
import Derived.Deep.MidRow
import Derived.Deep.WholeRow
import Derived.Laws.CopyRow
import Derived.Laws.AppendOwnNone
import Derived.Lib.SliceRun
import Derived.Deep.DeepCutAuto
namespace Go.Proofs.YtildhjiddidghaaGreatDoor
open Go.RowKit
set_option maxHeartbeats 4000000
set_option maxRecDepth 100000
def DS.hit (d : DS) (k j q : Nat) : Bool := (psE (d.w k j) == 0) && ((ps (d.w k j)).s && (((ps (d.w k j)).p.toNat == q) && d.isOf q 5 (d.at k).o))
def DS.mc1 (d : DS) (k : Nat) : Nat → Nat → Nat
  | 0, _ => 0
  | j + 1, q => d.mc1 k j q + (if d.hit k j q = true then 1 else 0)
def DS.mc (d : DS) : Nat → Nat → Nat
  | 0, _ => 0
  | k + 1, q => d.mc k q + (if (d.at k).t = 4 then d.mc1 k 1024 q else 0)
def DS.mcL (d : DS) (k : Nat) : List Nat := (List.range d.m.ns).map (d.mc k)
def DS.mcI (d : DS) (k j : Nat) : List Nat := (List.range d.m.ns).map (fun q => d.mc k q + d.mc1 k j q)
theorem mcI_zero (d : DS) (k : Nat) : d.mcI k 0 = d.mcL k := by simp [DS.mcI, DS.mcL, DS.mc1]
theorem mcL_skip {d : DS} {k : Nat} (h : (d.at k).t ≠ 4) : d.mcL (k + 1) = d.mcL k := by
  unfold DS.mcL
  apply List.map_congr_left
  intro q _
  simp [DS.mc, h]
theorem mcL_next {d : DS} {k : Nat} (h : (d.at k).t = 4) : d.mcL (k + 1) = d.mcI k 1024 := by
  unfold DS.mcL DS.mcI
  apply List.map_congr_left
  intro q _
  simp [DS.mc, h]
theorem mcI_len (d : DS) (k j : Nat) : (d.mcI k j).length = d.m.ns := by simp [DS.mcI]
theorem mcI_at (d : DS) (k j q : Nat) (hq : q < d.m.ns) : (d.mcI k j)[q]? = some (d.mc k q + d.mc1 k j q) := by
  rw [DS.mcI, List.getElem?_map, List.getElem?_range hq]; rfl
theorem mcI_skip {d : DS} {k j : Nat} (h : ∀ q, d.hit k j q = false) : d.mcI k (j + 1) = d.mcI k j := by
  unfold DS.mcI
  apply List.map_congr_left
  intro q _
  simp [DS.mc1, h]
theorem mcI_hit {d : DS} {k j q : Nat} (h : d.hit k j q = true) (ho : ∀ i, i ≠ q → d.hit k j i = false) (hn : q < d.m.ns) : d.mcI k (j + 1) = (d.mcI k j).set q (d.mc k q + d.mc1 k j q + 1) := by
  apply List.ext_getElem?
  intro i
  rw [List.getElem?_set]
  by_cases hi : i < d.m.ns
  · rw [mcI_at d k (j + 1) i hi]
    by_cases e : q = i
    · subst e
      rw [if_pos rfl, if_pos (by rw [mcI_len]; exact hi)]
      simp [DS.mc1, h]
      omega
    · rw [if_neg e, mcI_at d k j i hi]
      simp [DS.mc1, ho i (fun h => e h.symm)]
  · rw [List.getElem?_eq_none (by rw [mcI_len]; omega)]
    by_cases e : q = i
    · omega
    · rw [if_neg e, List.getElem?_eq_none (by rw [mcI_len]; omega)]
theorem mc1_le (d : DS) (k q : Nat) : ∀ n, d.mc1 k n q ≤ n
  | 0 => Nat.le_refl _
  | n + 1 => by
    have := mc1_le d k q n
    unfold DS.mc1
    split <;> omega
theorem mc_le (d : DS) (q : Nat) : ∀ n, d.mc n q ≤ n * 1024
  | 0 => Nat.le_refl _
  | n + 1 => by
    have := mc_le d q n
    have := mc1_le d n q 1024
    unfold DS.mc
    split <;> omega
theorem mcL_zero (d : DS) : ints (d.mcL 0) = List.replicate d.m.ns (.int .i64 0) := by
  rw [DS.mcL, ints, List.map_map, List.eq_replicate_iff]
  refine ⟨by simp, fun b hb => ?_⟩
  simp only [List.mem_map, List.mem_range, Function.comp_apply] at hb
  obtain ⟨q, _, rfl⟩ := hb
  rfl
structure CM (w wr : World) (gN g5 gW : Nat) (C : List Nat) (X : En) (L : List Int) : Prop where
  c : Cel wr gN 3 (ints C)
  e : Cel wr g5 92 X.cs
  l : Cel wr gW 22 (u32s L)
  b : Below w.heap.size w wr
  n : w.heap.size ≤ gN
  ne : gN ≠ g5
  nw : gN ≠ gW
theorem CM.on {w wr w' : World} {gN g5 gW : Nat} {C : List Nat} {X : En} {L : List Int} (h : CM w wr gN g5 gW C X L) (hb : Below wr.heap.size wr w') : CM w w' gN g5 gW C X L := ⟨h.c.on hb, h.e.on hb, h.l.on hb, below_on h.b hb, h.n, h.ne, h.nw⟩
theorem CM.put {w wr : World} {gN g5 gW : Nat} {C : List Nat} {X : En} {L : List Int} (h : CM w wr gN g5 gW C X L) (q a : Nat) : CM w (wr.setCell ⟨gN, q, none⟩ (.int .i64 (a : Int))) gN g5 gW (C.set q a) X L := by
  have hb : ButL [gN] wr (wr.setCell ⟨gN, q, none⟩ (.int .i64 (a : Int))) := .setCell _ _ _ _ (by simp)
  refine ⟨by rw [← ints_set]; exact h.c.setCell q _, h.e.but hb (by rw [List.mem_singleton]; exact fun e => h.ne e.symm), h.l.but hb (by rw [List.mem_singleton]; exact fun e => h.nw e.symm), h.b.trans (hb.below (B := w.heap.size) (fun k hk => by rw [List.mem_singleton] at hk; have := h.n; omega) h.b.size), h.n, h.ne, h.nw⟩
theorem countMaps_v (w : World) (v : Vp) (p : Dp) (d : DS) (h : VS w v p d) (hu : d.m.U) :
    Calls Tryz.prog 92 #[.pointer (some ⟨v.g, 0, none⟩)] w fun e w' => ∃ gN, e = .returned (.slice (some ⟨gN, 0, none⟩) d.m.ns d.m.ns) ∧ Cel w' gN 3 (ints (d.mcL d.m.ns)) ∧ w.heap.size ≤ gN ∧ Below w.heap.size w w' := by
  have HV := hid h
  have HWd := hid (fun w h k => words_v w v p d h ((k : Nat) : Int) 0 1024 (by decide))
  have HPs := hid (fun w k j => ps_any w (d.w k j) (hu.word true (k : Int) (j : Int)).1 (hu.word true (k : Int) (j : Int)).2)
  have HNat := hid (fun k j => ps_nat (u := d.w k j) (hu.word true (k : Int) (j : Int)).1)
  have HI := hid (fun w h q o => isOf_v w v p d h q 5 o)
  have HC2 := hid (fun w (h : VS w v p d) => h.c2)
  have x2 := h.c2
  have HRg := hid (fun w (h : VS w v p d) k hk => h.rng k hk)
  have HAt := hid (fun k j hj => wds_at d k 1024 j hj)
  have HN := hid h.db.ok.n64
  have HH : Hid (∀ k j q, d.hit k j q = ((psE (d.w k j) == 0) && ((ps (d.w k j)).s && (((ps (d.w k j)).p.toNat == q) && d.isOf q 5 (d.at k).o)))) := hid (fun _ _ _ => rfl)
  have HLt := hid (fun q o => @isOf_lt d q 5 o)
  have HL0 := hid (mcL_zero d)
  have HI0 := hid (mcI_zero d)
  have HLs := hid (fun k => @mcL_skip d k)
  have HLn := hid (fun k => @mcL_next d k)
  have HIs := hid (fun k j => @mcI_skip d k j)
  have HIh := hid (fun k j q => @mcI_hit d k j q)
  have HIa := hid (fun k j q hq => ints_at _ q _ (mcI_at d k j q hq))
  have HLe := hid (fun k j q => And.intro (mc_le d q k) (mc1_le d k q j))
  have HOk := hid (fun k hk => (h.db.ok.onat (k := k) hk))
  clear h hu
  generalize hn : d.m.ns = n at *
  clear hn
  simp only [Nat.zero_add] at HWd
  go_enter Tryz.func92, Tryz.ntmps92
  go_upto_region 2 with (at_make; refine wpList_make_cel rfl _ _ 96 3 rfl (.int .i64 0) 8 under96 info3 rfl n _ _ rfl rfl rfl rfl (by have := HN.out; omega) (by have := HN.out; omega) ?_; intro w2 hc hb hs; have C2 := hid (And.intro hc hb); clear hc hb hs)
  clear x2
  have x2 := HC2.out _ (HV.out.on C2.out.2)
  go_upto_region 3 with fail
  clear x2
  generalize hg : w.heap.size = gN at C2 ⊢
  have HG := hid hg
  clear hg
  go_loopw [21] (fun i wr => ∃ j : Nat, j ≤ n ∧ i = .int .i64 (j : Int) ∧ Hid (Cel wr gN 3 (ints (d.mcL j)) ∧ Below w.heap.size w wr)) (fun i _ => n - (intOf i).toNat)
  case atStart => exact ⟨0, Nat.zero_le _, rfl, hid ⟨by rw [HL0.out]; exact C2.out.1, by rw [HG.out]; exact C2.out.2⟩⟩
  case round =>
    obtain ⟨j, hj, rfl, HQ⟩ := hrel
    clear C2
    by_cases hlt : j < n
    · have q1 : (j : Int) < (n : Int) := by omega
      have q64 := HN.out
      have q2 : (j : Int) ≤ 64 := by omega
      have HJ := hid hlt
      have HVj := hid (HV.out.on HQ.out.2)
      have HRj := hid (HRg.out _ HVj.out j hlt)
      have HSj := hid (HLs.out j)
      have HNj := hid (HLn.out j)
      have HHj := hid (HH.out j)
      have H5 : Hid (gN < wr.heap.size) := hid HQ.out.1.lt
      clear hlt hj q64
      generalize d.at j = X at *
      go_upto_region 5 with (first | (refine wpList_load_mid rfl 92 _ rfl v.ge (j * 5) rfl _ _ HRj.out underE rfl (by rw [sizeE]; rfl) ?_) | (refine wpList_store_st rfl 92 _ _ rfl wr.heap.size X.cs rfl rfl (Cel.new wr 92 En.zero.cs) sizeE rfl rfl ?_; intro w3 hc hb hs; have hbb := (below_one wr (.cells En.zero.cs.toArray 92)).trans (hb.below (B := wr.heap.size) (by simp) (by simp)); have K3 := hid (And.intro hc (And.intro (HQ.out.1.on hbb) (below_on HQ.out.2 hbb))); clear hc hb hs hbb))
      clear HRj
      generalize wr.heap.size = g5 at *
      have y0 : w3.cell? ⟨g5, 0, none⟩ = some (.int .i64 X.t) := K3.out.1.cell 0
      by_cases ht : X.t = 4
      · rw [ht] at y0
        have HN2 := hid (HNj.out ht)
        have HW3 := hid (HWd.out _ (HV.out.on K3.out.2.2) j)
        clear HSj HNj
        go_upto_region 7 with (go_at_call 137; refine HW3.out.mono ?_; rintro e w4 ⟨gW, rfl, hc, hgw, hb⟩; have K4 := hid (CM.mk (K3.out.2.1.on hb) (K3.out.1.on hb) hc (below_on K3.out.2.2 hb) (by have := HG.out; omega) (by have := H5.out; omega) (by have := H5.out; have := K3.out.1.lt; omega)); clear hc hgw hb)
        rw [← HI0.out] at K4
        clear y0 K3 HW3
        go_loopw [33] (fun i wr => ∃ m : Nat, m ≤ 1024 ∧ i = .int .i64 (m : Int) ∧ Hid (CM w wr gN g5 gW (d.mcI j m) X (d.wds (j : Int) 0 1024))) (fun i _ => 1024 - (intOf i).toNat)
        case atStart => exact ⟨0, Nat.zero_le _, rfl, K4⟩
        case round =>
          obtain ⟨m, hm, rfl, HK⟩ := hrel
          clear K4 HQ
          by_cases hlt : m < 1024
          · have q3 : (m : Int) < 1024 := by omega
            have z0 : wr.cell? ⟨gW, m, none⟩ = some (.int .u32 (d.w j m)) := by rw [HK.out.l.cell]; exact HAt.out j m hlt
            have HPj := hid (HPs.out · j m)
            have HNm := HNat.out j m
            have HHm := hid (HHj.out m)
            have HSm := hid (HIs.out j m)
            have HTm := hid (HIh.out j m)
            have HAm := hid (HIa.out j m)
            have HLm := hid (HLe.out j m)
            have HM := hid hlt
            clear hlt hm
            generalize d.hit j m = hh at *
            generalize psE (d.w j m) = E at *
            generalize hMM : ps (d.w j m) = M at *
            clear hMM
            generalize d.w j m = u at *
            obtain ⟨pn, hpn⟩ : ∃ pn, M.p.toNat = pn := ⟨_, rfl⟩
            rw [hpn] at HNm HHm
            simp only [Mp.v] at HPj
            rw [HNm] at HPj
            clear HNm hpn
            go_upto_region 10 with (first | (go_at_call 138; refine (HPj.out _).mono ?_; rintro e w5 ⟨rfl, hb⟩; have K5 := hid (HK.out.on hb); clear hb z0) | (refine wpList_store_st rfl 180 _ _ rfl w5.heap.size [.bool M.s, .int .i64 (pn : Int), .bool M.wr, .bool M.ex] rfl rfl (Cel.new w5 180 [.bool false, .int .i64 0, .bool false, .bool false]) size180 rfl rfl ?_; intro w6 hc hb hs; have hbb := (below_one w5 (.cells #[.bool false, .int .i64 0, .bool false, .bool false] 180)).trans (hb.below (B := w5.heap.size) (by simp) (by simp)); have K6 := hid (And.intro (K5.out.on hbb) hc); clear hc hb hs hbb K5))
            generalize w5.heap.size = g8 at *
            have y0 : w6.cell? ⟨g8, 0, none⟩ = some (.bool M.s) := K6.out.2.cell 0
            have y1 : w6.cell? ⟨g8, 1, none⟩ = some (.int .i64 (pn : Int)) := K6.out.2.cell 1
            have y2 : w6.cell? ⟨g5, 1, none⟩ = some (.int .i64 X.o) := K6.out.1.e.cell 1
            by_cases hE : E = 0
            · subst hE
              cases hs : M.s
              · rw [hs] at y0
                have HS := hid (HSm.out (fun q => by rw [HHm.out, hs]; rfl))
                go_wp2_with fail
                go_roundw
                case measure => have := HM.out; simp [intOf] <;> omega
                case rel => exact ⟨m + 1, HM.out, by simp, hid (by rw [HS.out]; exact K6.out.1)⟩
              · rw [hs] at y0
                have HIj := hid (HI.out _ (HV.out.on K6.out.1.b) pn X.o)
                cases hy : d.isOf pn 5 X.o
                · rw [hy] at HIj
                  have HS := hid (HSm.out (fun q => by
                    rw [HHm.out, hs]
                    by_cases e : pn = q
                    · rw [← e, hy]; simp
                    · simp [e]))
                  clear hy
                  go_wp2_with (go_at_call 139; refine HIj.out.mono ?_; rintro e wx ⟨rfl, hw⟩; subst wx)
                  go_roundw
                  case measure => have := HM.out; simp [intOf] <;> omega
                  case rel => exact ⟨m + 1, HM.out, by simp, hid (by rw [HS.out]; exact K6.out.1)⟩
                · have hpn := HLt.out pn X.o hy
                  rw [hy] at HIj
                  have HS := hid (HTm.out pn (by rw [HHm.out, hs, hy]; simp) (fun q hq => by
                    rw [HHm.out, hs]
                    have : ¬ pn = q := fun e => hq e.symm
                    simp [this]) hpn)
                  clear hy
                  have z1 : w6.cell? ⟨gN, pn, none⟩ = some (.int .i64 ((d.mc j pn + d.mc1 j m pn : Nat) : Int)) := by rw [K6.out.1.c.cell]; exact HAm.out pn hpn
                  have z2 := K6.out.1.c.free pn
                  have hle := HLm.out pn
                  have hmm := HM.out
                  have q4 : (pn : Int) < (n : Int) := by omega
                  have q5 : ((d.mc j pn + d.mc1 j m pn : Nat) : Int) ≤ 1000000 := by omega
                  have K7 := hid (K6.out.1.put pn (d.mc j pn + d.mc1 j m pn + 1))
                  rw [← HS.out] at K7
                  have hcs : ((d.mc j pn + d.mc1 j m pn + 1 : Nat) : Int) = ((d.mc j pn + d.mc1 j m pn : Nat) : Int) + 1 := by omega
                  rw [hcs] at K7
                  have kw : IntKind.wrap .i64 (((d.mc j pn + d.mc1 j m pn : Nat) : Int) + 1) = ((d.mc j pn + d.mc1 j m pn : Nat) : Int) + 1 := wr64 _ (by omega) (by omega)
                  clear hcs hle hmm hpn
                  generalize ((d.mc j pn + d.mc1 j m pn : Nat) : Int) = a at *
                  go_wp2_with (go_at_call 139; refine HIj.out.mono ?_; rintro e wx ⟨rfl, hw⟩; subst wx)
                  go_roundw
                  case measure => have := HM.out; simp [intOf] <;> omega
                  case rel => exact ⟨m + 1, HM.out, by simp, K7⟩
            · have hE' : (E == 0) = false := by simpa using hE
              have HS := hid (HSm.out (fun q => by rw [HHm.out, hE']; rfl))
              clear hE
              go_wp2_with fail
              go_roundw
              case measure => have := HM.out; simp [intOf] <;> omega
              case rel => exact ⟨m + 1, HM.out, by simp, hid (by rw [HS.out]; exact K6.out.1)⟩
          · have hm4 : m = 1024 := by omega
            subst hm4
            clear hlt hm
            go_wp2_with fail
            go_roundw
            case measure => have := HJ.out; simp [intOf] <;> omega
            case rel => exact ⟨j + 1, HJ.out, by simp, hid ⟨by rw [HN2.out]; exact HK.out.c, HK.out.b⟩⟩
      · have ht' : (X.t != 4) = true := by simpa using ht
        have HS := hid (HSj.out ht)
        clear ht
        go_wp2_with fail
        go_roundw
        case measure => have := HJ.out; simp [intOf] <;> omega
        case rel => exact ⟨j + 1, HJ.out, by simp, hid ⟨by rw [HS.out]; exact K3.out.2.1, K3.out.2.2⟩⟩
    · have hjn : j = n := by omega
      subst hjn
      clear hlt hj
      go_wp2_with fail
      go_ret
      exact ⟨gN, rfl, HQ.out.1, by have := HG.out; omega, HQ.out.2⟩
end Go.Proofs.YtildhjiddidghaaGreatDoor
namespace Go.Proofs.YtildhjiddidghaaGreatDoor.R
open Go.RowKit

theorem ret_int {k : IntKind} {a b : Int} (h : a = b) : Ending.returned (.int k a) = .returned (.int k b) := by rw [h]
theorem ret_bool {a b : Bool} (h : a = b) : Ending.returned (.bool a) = .returned (.bool b) := by rw [h]
theorem below_one (W : World) (o : Obj) : Below W.heap.size W (W.alloc o) := (Below.refl W.heap.size W).alloc (Nat.le_refl _) o
theorem below_on {X w w' : World} (h : Below X.heap.size X w) (k : Below w.heap.size w w') : Below X.heap.size X w' := h.trans (k.mono h.size)
theorem below_to {B : Nat} {a b c : World} (h : Below B a b) (hB : B ≤ b.heap.size) (k : Below b.heap.size b c) : Below B a c := h.trans (k.mono hB)
def Cel (w : World) (g : Nat) (t : TypeId) (cs : List Value) : Prop := w.heap[g]? = some (.cells cs.toArray t (0, 0))
theorem Cel.lt {w : World} {g : Nat} {t : TypeId} {cs : List Value} (h : Cel w g t cs) : g < w.heap.size := (Array.getElem?_eq_some_iff.1 h).1
theorem Cel.below {w w' : World} {B g : Nat} {t : TypeId} {cs : List Value} (h : Cel w g t cs) (hb : Below B w w') (hg : g < B) : Cel w' g t cs := (hb.block g hg).trans h
theorem Cel.on {w w' : World} {g : Nat} {t : TypeId} {cs : List Value} (h : Cel w g t cs) (hb : Below w.heap.size w w') : Cel w' g t cs := h.below hb h.lt
theorem Cel.cell {w : World} {g : Nat} {t : TypeId} {cs : List Value} (h : Cel w g t cs) (j : Nat) : w.cell? ⟨g, j, none⟩ = cs[j]? := by
  rw [cell_of_row w g j _ t (0, 0) h]; simp
theorem Cel.range {w : World} {g : Nat} {t : TypeId} {cs : List Value} (h : Cel w g t cs) : w.rangeAt g 0 cs := fun j v hv => by rw [Nat.zero_add, h.cell j, hv]
theorem Cel.new (w : World) (t : TypeId) (cs : List Value) : Cel (w.alloc (.cells cs.toArray t)) w.heap.size t cs := heap_alloc_new _ _
theorem Cel.set {w : World} {g : Nat} {t : TypeId} {cs : List Value} (h : Cel w g t cs) (vs : List Value) : Cel (w.setRow g vs.toArray) g t vs := setRow_heap w g _ vs.toArray t _ h
theorem Cel.setCell {w : World} {g : Nat} {t : TypeId} {cs : List Value} (h : Cel w g t cs) (j : Nat) (u : Value) : Cel (w.setCell ⟨g, j, none⟩ u) g t (cs.set j u) := by
  unfold Cel at h ⊢
  rw [heap_setCell_same w g j _ t _ h, List.setIfInBounds_toArray]
theorem Cel.free {w : World} {g : Nat} {t : TypeId} {cs : List Value} (h : Cel w g t cs) (j : Nat) : w.frozen? ⟨g, j, none⟩ = false := frozen_of_row w g j _ t h
theorem Cel.ty {w : World} {g : Nat} {t t' : TypeId} {cs cs' : List Value} (h : Cel w g t cs) (h' : Cel w g t' cs') : t = t' := by
  unfold Cel at h h'
  rw [h] at h'
  injection h' with h'
  injection h' with _ h2 _
structure ButL (G : List Nat) (w w' : World) : Prop where
  os : w'.os = w.os
  tape : w'.tape = w.tape
  output : w'.output = w.output
  size : w.heap.size ≤ w'.heap.size
  block : ∀ k, k < w.heap.size → k ∉ G → w'.heap[k]? = w.heap[k]?
theorem ButL.refl (G : List Nat) (w : World) : ButL G w w := ⟨rfl, rfl, rfl, Nat.le_refl _, fun _ _ _ => rfl⟩
theorem ButL.trans {G : List Nat} {a b c : World} (h : ButL G a b) (h' : ButL G b c) : ButL G a c := ⟨h'.os.trans h.os, h'.tape.trans h.tape, h'.output.trans h.output, Nat.le_trans h.size h'.size, fun k hk hg => (h'.block k (by have := h.size; omega) hg).trans (h.block k hk hg)⟩
theorem ButL.trans' {G : List Nat} {g : Nat} {a b c : World} (h : ButL G a b) (h' : ButL [g] b c) (hg : a.heap.size ≤ g) : ButL G a c := ⟨h'.os.trans h.os, h'.tape.trans h.tape, h'.output.trans h.output, Nat.le_trans h.size h'.size, fun k hk hn => (h'.block k (by have := h.size; omega) (by rw [List.mem_singleton]; omega)).trans (h.block k hk hn)⟩
theorem ButL.of {G : List Nat} {w w' : World} (h : Below w.heap.size w w') : ButL G w w' := ⟨h.os, h.tape, h.output, h.size, fun k hk _ => h.block k hk⟩
theorem ButL.on {G : List Nat} {a b c : World} (h : ButL G a b) (k : Below b.heap.size b c) : ButL G a c := h.trans (.of k)
theorem ButL.below {G : List Nat} {B : Nat} {w w' : World} (h : ButL G w w') (hG : ∀ k ∈ G, B ≤ k) (hs : B ≤ w.heap.size) : Below B w w' := ⟨h.os, h.tape, h.output, h.size, fun k hk => h.block k (by omega) (fun hm => by have := hG k hm; omega)⟩
theorem ButL.mono {G G' : List Nat} {w w' : World} (h : ButL G w w') (hG : ∀ k ∈ G, k ∈ G') : ButL G' w w' := ⟨h.os, h.tape, h.output, h.size, fun k hk hn => h.block k hk (fun hm => hn (hG k hm))⟩
theorem ButL.setRow {G : List Nat} (w : World) (g : Nat) (cs : Array Value) (hg : g ∈ G) : ButL G w (w.setRow g cs) := ⟨rfl, rfl, rfl, by simp, fun k _ hk => Go.setRow_other w g k cs (fun h => hk (h ▸ hg))⟩
theorem ButL.setCell {G : List Nat} (w : World) (g j : Nat) (u : Value) (hg : g ∈ G) : ButL G w (w.setCell ⟨g, j, none⟩ u) := ⟨rfl, rfl, rfl, by simp, fun k _ hk => heap_setCell_other w ⟨g, j, none⟩ k u (fun h => hk (by have h' : k = g := h; rw [h']; exact hg))⟩
theorem Cel.but {G : List Nat} {w w' : World} {g : Nat} {t : TypeId} {cs : List Value} (h : Cel w g t cs) (hb : ButL G w w') (hg : g ∉ G) : Cel w' g t cs := (hb.block g h.lt hg).trans h

theorem hid {p : Prop} (h : p) : Hid p := h
theorem new_at (W : World) (o : Obj) : (W.alloc o).heap[W.heap.size]? = some o := by show (W.heap.push o)[W.heap.size]? = some o; simp
theorem new_at2 (W : World) (o p : Obj) : ((W.alloc o).alloc p).heap[W.heap.size + 1]? = some p := by have := new_at (W.alloc o) p; rwa [show (W.alloc o).heap.size = W.heap.size + 1 by show (W.heap.push o).size = _; simp] at this
theorem below_two (W : World) (o p : Obj) : Below W.heap.size W ((W.alloc o).alloc p) := Below.alloc (below_one W o) (by show _ ≤ (W.heap.push o).size; simp) _
theorem ret_st {P : Program} {fn : Func} {p : Tmp} {ty e : TypeId} {fr : Nat × Nat} {d : TypeDesc} {a : Act} {w : World} {post : Ending → World → Prop} (hr : fn.results = #[.cell p ty]) (hd : a.defers = []) (g : Nat) (cs : Array Value)
    (hp : a.tmps.getD p undef = .pointer (some ⟨g, 0, none⟩)) (hg : w.heap[g]? = some (.cells cs e fr)) (hu : P.underlying ty = some d) (hdd : (match d with | .struct _ | .array _ _ => true | _ => false) = true) (hi : (P.info? ty).map (·.size) = some cs.size) (h : post (.returned (.agg cs)) w) :
    bodyPost P fn post .ret a w := bodyPost_ret (results_cell_row hr _ _ g e _ fr _ hp hg hu hdd hi) hd h
theorem ret_st2 {P : Program} {fn : Func} {p q : Tmp} {ty e : TypeId} {d : TypeDesc} {a : Act} {w : World} {post : Ending → World → Prop} (hr : fn.results = #[.cell p ty, .tmp q]) (hd : a.defers = []) (g : Nat) (cs : List Value)
    (hp : a.tmps.getD p undef = .pointer (some ⟨g, 0, none⟩)) (hb : Cel w g e cs) (hu : P.underlying ty = some d) (hdd : (match d with | .struct _ | .array _ _ => true | _ => false) = true) (hi : (P.info? ty).map (·.size) = some cs.length) (h : post (.returned (.tuple #[.agg cs.toArray, a.tmps.getD q undef])) w) :
    bodyPost P fn post .ret a w := by
  refine bodyPost_ret (v := .tuple #[.agg cs.toArray, a.tmps.getD q undef]) ?_ hd h
  have hp' : a.tmps[p]?.getD undef = .pointer (some ⟨g, 0, none⟩) := by simpa using hp
  have := run_loadVar_row (P := P) w g e ty _ (0, 0) _ hb hu hdd (by rw [hi]; simp)
  simp [results, hr, hp', asAddr, this]
structure F where
  r : Nat → Int
  pc : Int
  z : Bool
  n : Bool
  l : Bool
def rs (r : Nat → Int) : List Value := (List.range 15).map fun k => .int .u32 (r k)
def F.cs (f : F) : List Value := rs f.r ++ [.int .u32 f.pc, .bool f.z, .bool f.n, .bool f.l]
def F.v (f : F) : Value := .agg f.cs.toArray
def F.zero : F := ⟨fun _ => 0, 0, false, false, false⟩
def F.put (f : F) (k : Nat) (v : Int) : F := { f with r := fun j => if j = k then v else f.r j }
theorem rs_len (r : Nat → Int) : (rs r).length = 15 := by simp [rs]
theorem rs_at (r : Nat → Int) (k : Nat) (h : k < 15) : (rs r)[k]? = some (.int .u32 (r k)) := by simp [rs, h]
theorem F.len (f : F) : f.cs.length = 19 := by simp [F.cs, rs_len]
theorem F.at (f : F) (k : Nat) (h : k < 15) : f.cs[k]? = some (.int .u32 (f.r k)) := by rw [F.cs, List.getElem?_append_left (by rw [rs_len]; exact h), rs_at _ _ h]
theorem F.at15 (f : F) : f.cs[15]? = some (.int .u32 f.pc) := by rw [F.cs, List.getElem?_append_right (by rw [rs_len]; decide), rs_len]; rfl
theorem F.at16 (f : F) : f.cs[16]? = some (.bool f.z) := by rw [F.cs, List.getElem?_append_right (by rw [rs_len]; decide), rs_len]; rfl
theorem F.at17 (f : F) : f.cs[17]? = some (.bool f.n) := by rw [F.cs, List.getElem?_append_right (by rw [rs_len]; decide), rs_len]; rfl
theorem F.at18 (f : F) : f.cs[18]? = some (.bool f.l) := by rw [F.cs, List.getElem?_append_right (by rw [rs_len]; decide), rs_len]; rfl
theorem rs_set (r : Nat → Int) (k : Nat) (v : Int) : (rs r).set k (.int .u32 v) = rs fun j => if j = k then v else r j := by
  apply List.ext_getElem?
  intro j
  by_cases hj : j < 15
  · rw [List.getElem?_set]
    by_cases e : k = j
    · subst e
      rw [if_pos rfl, rs_len, if_pos hj, rs_at _ _ hj, if_pos rfl]
    · rw [if_neg e, rs_at _ _ hj, rs_at _ _ hj, if_neg (fun h => e h.symm)]
  · rw [List.getElem?_eq_none (by rw [List.length_set, rs_len]; omega), List.getElem?_eq_none (by rw [rs_len]; omega)]
theorem F.set (f : F) (k : Nat) (h : k < 15) (v : Int) : f.cs.set k (.int .u32 v) = (f.put k v).cs := by
  rw [F.cs, List.set_append_left _ _ (by rw [rs_len]; exact h), rs_set]; rfl
theorem F.set16 (f : F) (b : Bool) : f.cs.set 16 (.bool b) = { f with z := b }.cs := by rw [F.cs, List.set_append_right _ _ (by rw [rs_len]; decide), rs_len]; rfl
theorem F.set17 (f : F) (b : Bool) : f.cs.set 17 (.bool b) = { f with n := b }.cs := by rw [F.cs, List.set_append_right _ _ (by rw [rs_len]; decide), rs_len]; rfl
theorem F.set18 (f : F) (b : Bool) : f.cs.set 18 (.bool b) = { f with l := b }.cs := by rw [F.cs, List.set_append_right _ _ (by rw [rs_len]; decide), rs_len]; rfl
theorem F.one (f : F) : ∀ v ∈ f.cs, v.oneCell' = true := by
  intro v hv
  simp only [F.cs, rs, List.mem_append, List.mem_map, List.mem_cons, List.not_mem_nil, or_false] at hv
  rcases hv with ⟨_, _, rfl⟩ | rfl | rfl | rfl | rfl <;> rfl
theorem F.all (f : F) : f.cs.all (·.oneCell') = true := List.all_eq_true.2 f.one
theorem rs_all (r : Nat → Int) : (rs r).all (·.oneCell') = true := by
  rw [List.all_eq_true]
  intro v hv
  simp only [rs, List.mem_map] at hv
  obtain ⟨_, _, rfl⟩ := hv
  rfl
theorem wpList_store_st {P : Program} {ops : Array Oper} {rest : List Oper} {o : Oper} {a : Act} {w : World} {Q : Exit → Act → World → Prop} (hgd : o.guard = none) (ty : TypeId) (x y : Operand) (ho : o.op = .store ty x y)
    (g : Nat) (vs : List Value) (hx : a.eval x = .pointer (some ⟨g, 0, none⟩)) (hy : a.eval y = .agg vs.toArray) {e : TypeId} {cs : List Value} (hg : Cel w g e cs) (hi : (P.info? ty).map (·.size) = some vs.length) (hl : cs.length = vs.length) (h1 : vs.all (·.oneCell') = true)
    (h : ∀ w', Cel w' g e vs → ButL [g] w w' → w'.heap.size = w.heap.size → wpList P ops Q rest (a.put o.dst undef) w') : wpList P ops Q (o :: rest) a w :=
  wpList_store_row hgd ty x y ho g _ hx hy e _ hg (by rw [hi]; simp) (by simp [hl]) (by simpa using h1) (h _ (hg.set _) (ButL.setRow _ _ _ (by simp)) (by simp))
theorem under27 : Tryz.prog.underlying 191 = some (.struct (Tryz.prog.fieldsOf 191)) := by kernel_rfl
theorem under25 : Tryz.prog.underlying 207 = some (.struct (Tryz.prog.fieldsOf 207)) := by kernel_rfl
theorem under23 : Tryz.prog.underlying 189 = some (.array 15 22) := by kernel_rfl
theorem size27 : (Tryz.prog.info? 191).map (·.size) = some 19 := by kernel_rfl
theorem size25 : (Tryz.prog.info? 207).map (·.size) = some 19 := by kernel_rfl
theorem size23 : (Tryz.prog.info? 189).map (·.size) = some 15 := by kernel_rfl
end Go.Proofs.YtildhjiddidghaaGreatDoor.R
namespace Go.Proofs.YtildhjiddidghaaGreatDoor.R
open Go.RowKit
theorem under22 : Tryz.prog.underlying 22 = some (.int .u32) := by kernel_rfl
theorem under4 : Tryz.prog.underlying 4 = some .bool := by kernel_rfl
theorem size22 : (Tryz.prog.info? 22).map (·.size) = some 1 := by kernel_rfl
def rV (r : Nat → Int) : Value := .agg (rs r).toArray
theorem wpList_load_f {ops : Array Oper} {rest : List Oper} {o : Oper} {a : Act} {w : World} {Q : Exit → Act → World → Prop} (hgd : o.guard = none) (x : Operand) (ho : o.op = .load 191 x)
    (g : Nat) {t : TypeId} (f : F) (hx : a.eval x = .pointer (some ⟨g, 0, none⟩)) (hg : Cel w g t f.cs)
    (h : wpList Tryz.prog ops Q rest (a.put o.dst f.v) w) : wpList Tryz.prog ops Q (o :: rest) a w :=
  wpList_load_mid hgd 191 x ho g 0 hx _ _ hg.range under27 rfl (by rw [size27, F.len]) h
theorem wpList_load_g {ops : Array Oper} {rest : List Oper} {o : Oper} {a : Act} {w : World} {Q : Exit → Act → World → Prop} (hgd : o.guard = none) (x : Operand) (ho : o.op = .load 207 x)
    (g : Nat) {t : TypeId} (f : F) (hx : a.eval x = .pointer (some ⟨g, 0, none⟩)) (hg : Cel w g t f.cs)
    (h : wpList Tryz.prog ops Q rest (a.put o.dst f.v) w) : wpList Tryz.prog ops Q (o :: rest) a w :=
  wpList_load_mid hgd 207 x ho g 0 hx _ _ hg.range under25 rfl (by rw [size25, F.len]) h
theorem F.rng {w : World} {g : Nat} {t : TypeId} {f : F} (h : Cel w g t f.cs) : w.rangeAt g 0 (rs f.r) := fun j v hv => h.range j v (by
  have hj : j < 15 := by
    by_cases hj : j < 15
    · exact hj
    · rw [List.getElem?_eq_none (by rw [rs_len]; omega)] at hv; cases hv
  rw [F.cs, List.getElem?_append_left (by rw [rs_len]; exact hj)]; exact hv)
theorem wpList_store_f {ops : Array Oper} {rest : List Oper} {o : Oper} {a : Act} {w : World} {Q : Exit → Act → World → Prop} (hgd : o.guard = none) (x y : Operand) (ho : o.op = .store 191 x y)
    (g : Nat) {t : TypeId} (f f' : F) (hx : a.eval x = .pointer (some ⟨g, 0, none⟩)) (hy : a.eval y = f'.v) (hg : Cel w g t f.cs)
    (h : ∀ w', Cel w' g t f'.cs → ButL [g] w w' → w'.heap.size = w.heap.size → wpList Tryz.prog ops Q rest (a.put o.dst undef) w') : wpList Tryz.prog ops Q (o :: rest) a w :=
  wpList_store_st hgd 191 x y ho g f'.cs hx hy hg (by rw [size27, F.len]) (by rw [F.len, F.len]) f'.all h
theorem wpList_build_f {ops : Array Oper} {rest : List Oper} {o : Oper} {a : Act} {w : World} {Q : Exit → Act → World → Prop} (hgd : o.guard = none) (t : TypeId) (xs : Array (Nat × Operand)) (ho : o.op = .build t xs)
    (ps : Array (Nat × Value)) (hp : xs.map (fun x => (x.1, a.eval x.2)) = ps) (cs : Array Value) (hb : Tryz.prog.built t ps.toList = some cs)
    (h : wpList Tryz.prog ops Q rest (a.put o.dst (.agg cs)) w) : wpList Tryz.prog ops Q (o :: rest) a w := by
  refine wpList_plain hgd fun K hK => ?_
  unfold Oper.wp execOp
  simp only [ho, Sem.run_bind, hp, run_build w t ps _ hb, Result.andThen_ok]
  exact hK _ _ h
theorem built_zero : Tryz.prog.built 191 [] = some F.zero.cs.toArray := by kernel_rfl
theorem built_pc (p : Int) : Tryz.prog.built 191 [(1, .int .u32 p)] = some (F.cs ⟨fun _ => 0, p, false, false, false⟩).toArray := by kernel_rfl
def st3 (a b c : Int) (k : Nat) : Int := if k = 0 then a else if k = 1 then b else if k = 2 then c else 0
theorem wpList_build_zero {ops : Array Oper} {rest : List Oper} {o : Oper} {a : Act} {w : World} {Q : Exit → Act → World → Prop} (hgd : o.guard = none) (ho : o.op = .build 191 #[])
    (h : wpList Tryz.prog ops Q rest (a.put o.dst F.zero.v) w) : wpList Tryz.prog ops Q (o :: rest) a w :=
  wpList_build_f hgd 191 _ ho #[] (by simp) _ built_zero h
theorem wpList_build_pc {ops : Array Oper} {rest : List Oper} {o : Oper} {a : Act} {w : World} {Q : Exit → Act → World → Prop} (hgd : o.guard = none) (x : Operand) (ho : o.op = .build 191 #[(1, x)]) (p : Int) (hx : a.eval x = .int .u32 p)
    (h : wpList Tryz.prog ops Q rest (a.put o.dst (F.v ⟨fun _ => 0, p, false, false, false⟩)) w) : wpList Tryz.prog ops Q (o :: rest) a w :=
  wpList_build_f hgd 191 _ ho #[(1, .int .u32 p)] (by simp only [List.map_toArray, List.map_cons, List.map_nil, hx]) _ (built_pc p) h
def sameR (r s : Nat → Int) : Bool := (List.range 15).all fun i => r i == s i
def F.same (f g : F) : Bool := sameR f.r g.r && (f.pc == g.pc && (f.z == g.z && (f.n == g.n && f.l == g.l)))
theorem sameR_iff (r s : Nat → Int) : sameR r s = true ↔ ∀ k, k < 15 → r k = s k := by
  simp only [sameR, List.all_eq_true, List.mem_range, beq_iff_eq]
theorem F.same_iff (f g : F) : f.same g = true ↔ (∀ k, k < 15 → f.r k = g.r k) ∧ f.pc = g.pc ∧ f.z = g.z ∧ f.n = g.n ∧ f.l = g.l := by
  simp only [F.same, Bool.and_eq_true, sameR_iff, beq_iff_eq]
theorem F.same_self (f : F) : f.same f = true := (f.same_iff f).2 ⟨fun _ _ => rfl, rfl, rfl, rfl, rfl⟩
theorem run_equalIn_rs (w : World) (d : Nat) (r s : Nat → Int) : (Op.equalIn (d + 2) 189 (rV r) (rV s)).run Tryz.prog w = .ok (sameR r s) w := by
  have hsz : ∀ w, (sizeOf 22).run Tryz.prog w = .ok 1 w := fun w => by
    have := size22
    cases hq : Tryz.prog.info? 22 with
    | none => simp [hq] at this
    | some i => simp [hq] at this; simp [sizeOf, typeInfo, hq, this]
  rw [sameR, List.range_eq_range', rV, rV, Op.equalIn]
  simp only [Sem.run_bind, run_underlying under23, Result.andThen_ok, hsz, Std.Legacy.Range.forIn_eq_forIn_range', Std.Legacy.Range.size, Nat.sub_zero, Nat.add_sub_cancel, Nat.div_one]
  have hl : ∀ i ∈ List.range' 0 15 1, i < 15 := fun i hi => by simpa using (List.mem_range'_1.1 hi).2
  generalize List.range' 0 15 1 = l at hl ⊢
  induction l with
  | nil => simp
  | cons i l ih =>
    have hi : i < 15 := hl i (by simp)
    have px : (part 22 (rs r).toArray (i * 1)).run Tryz.prog w = .ok (.int .u32 (r i)) w := by
      simp [part, isAgg, run_underlying under22, rs_at r i hi]
    have py : (part 22 (rs s).toArray (i * 1)).run Tryz.prog w = .ok (.int .u32 (s i)) w := by
      simp [part, isAgg, run_underlying under22, rs_at s i hi]
    have pe : (Op.equalIn (d + 1) 22 (.int .u32 (r i)) (.int .u32 (s i))).run Tryz.prog w = .ok (r i == s i) w := run_equalIn_int w d 22 .u32 .u32 _ _ under22
    simp only [List.forIn_cons, Sem.run_bind, px, py, pe, Result.andThen_ok, List.all_cons]
    cases hb : (r i == s i)
    · simp
    · simp only [Bool.not_true, Bool.false_eq_true, if_false, Sem.run_pure, Result.andThen_ok, Bool.true_and]
      exact ih fun j hj => hl j (by simp [hj])
theorem fields27 : (Tryz.prog.fieldsOf 191).toList.map (fun f => (f.name, f.type, f.offset)) = [("R", 189, 0), ("PC", 22, 15), ("Z", 4, 16), ("N", 4, 17), ("L", 4, 18)] := by kernel_rfl
theorem part_r (w : World) (f : F) : (part 189 f.cs.toArray 0).run Tryz.prog w = .ok (rV f.r) w := by
  have hsz : ∀ w, (sizeOf 189).run Tryz.prog w = .ok 15 w := fun w => by
    have := size23
    cases hq : Tryz.prog.info? 189 with
    | none => simp [hq] at this
    | some i => simp [hq] at this; simp [sizeOf, typeInfo, hq, this]
  have he : List.take 15 f.cs = rs f.r := by
    rw [F.cs, List.take_append_of_le_length (by rw [rs_len]; decide), List.take_of_length_le (by rw [rs_len]; decide)]
  simp [part, isAgg, run_underlying under23, hsz, he, rV]
theorem part_i (w : World) (f : F) (k : Nat) (x : Int) (h : f.cs[k]? = some (.int .u32 x)) : (part 22 f.cs.toArray k).run Tryz.prog w = .ok (.int .u32 x) w := by
  simp [part, isAgg, run_underlying under22, h]
theorem part_b (w : World) (f : F) (k : Nat) (x : Bool) (h : f.cs[k]? = some (.bool x)) : (part 4 f.cs.toArray k).run Tryz.prog w = .ok (.bool x) w := by
  simp [part, isAgg, run_underlying under4, h]
theorem run_equalIn_f (w : World) (d : Nat) (f g : F) : (Op.equalIn (d + 4) 191 f.v g.v).run Tryz.prog w = .ok (f.same g) w := by
  rw [F.v, F.v, run_equalIn_struct w (d + 3) 191 _ _ under27 (by kernel_rfl)]
  have h := fields27
  generalize (Tryz.prog.fieldsOf 191).toList = L at h ⊢
  have hl : L.length = 5 := by have := congrArg List.length h; simpa using this
  match L, hl with
  | [f1, f2, f3, f4, f5], _ =>
    simp only [List.map_cons, List.map_nil, List.cons.injEq, Prod.mk.injEq, and_true] at h
    obtain ⟨⟨a1, a2, a3⟩, ⟨b1, b2, b3⟩, ⟨c1, c2, c3⟩, ⟨d1, d2, d3⟩, e1, e2, e3⟩ := h
    have e22 := fun (x y : Int) => run_equalIn_int (P := Tryz.prog) w (d + 2) 22 .u32 .u32 x y under22
    have e4 := fun (x y : Bool) => run_equalIn_bool' (P := Tryz.prog) w (d + 2) 4 x y under4
    have e23 := run_equalIn_rs w (d + 1) f.r g.r
    simp only [Op.eqFields, a1, a2, a3, b1, b2, b3, c1, c2, c3, d1, d2, d3, e1, e2, e3, Sem.run_bind, part_r, part_i w f 15 _ f.at15, part_i w g 15 _ g.at15, part_b w f 16 _ f.at16, part_b w g 16 _ g.at16, part_b w f 17 _ f.at17, part_b w g 17 _ g.at17, part_b w f 18 _ f.at18, part_b w g 18 _ g.at18, Result.andThen_ok, e22, e4, e23, Sem.run_ite, Sem.run_pure]
    unfold F.same
    cases sameR f.r g.r <;> cases (f.pc == g.pc) <;> cases (f.z == g.z) <;> cases (f.n == g.n) <;> cases (f.l == g.l) <;> rfl
theorem guard27 : Tryz.prog.eqGuardType Tryz.prog.depth 191 = false := by kernel_rfl
end Go.Proofs.YtildhjiddidghaaGreatDoor.R
namespace Go.Proofs.YtildhjiddidghaaGreatDoor.R
open Go.RowKit

attribute [-simp] Tryz.isAgg191 Tryz.sizeOf191 Tryz.isAgg207 Tryz.sizeOf207 Tryz.isAgg189
structure Prep (W X : World) (t u : TypeId) (f : F) : Prop where
  box : Cel X W.heap.size t f.cs
  res : Cel X (W.heap.size + 1) u F.zero.cs
  below : Below W.heap.size W X
  size : X.heap.size = W.heap.size + 2
theorem zc : (#[.int .u32 0, .int .u32 0, .int .u32 0, .int .u32 0, .int .u32 0, .int .u32 0, .int .u32 0, .int .u32 0, .int .u32 0, .int .u32 0, .int .u32 0, .int .u32 0, .int .u32 0, .int .u32 0, .int .u32 0, .int .u32 0, .bool false, .bool false, .bool false] : Array Value) = F.zero.cs.toArray := by kernel_rfl
theorem prep (W : World) (t u : TypeId) (f : F) : Prep W ((W.alloc (.cells f.cs.toArray t)).alloc (.cells #[.int .u32 0, .int .u32 0, .int .u32 0, .int .u32 0, .int .u32 0, .int .u32 0, .int .u32 0, .int .u32 0, .int .u32 0, .int .u32 0, .int .u32 0, .int .u32 0, .int .u32 0, .int .u32 0, .int .u32 0, .int .u32 0, .bool false, .bool false, .bool false] u)) t u f := by
  rw [zc]
  have c1 := Cel.new (W.alloc (.cells f.cs.toArray t)) u F.zero.cs
  rw [show (W.alloc (Obj.cells f.cs.toArray t)).heap.size = W.heap.size + 1 by show (W.heap.push _).size = _; simp] at c1
  exact ⟨(Cel.new W t f.cs).on (below_one _ _), c1, below_two _ _ _, by show ((W.heap.push _).push _).size = _; simp⟩
theorem Prep.ret {W X w' : World} {t u : TypeId} {f f' : F} (h : Prep W X t u f) (hc : Cel w' (W.heap.size + 1) u f'.cs) (hb : ButL [W.heap.size + 1] X w') : Cel w' (W.heap.size + 1) u f'.cs ∧ Below W.heap.size W w' :=
  ⟨hc, h.below.trans (hb.below (by simp) (by rw [h.size]; omega))⟩
theorem Prep.set {W X : World} {t u : TypeId} {f f' : F} (h : Prep W X t u f) (j : Nat) (x : Value) (hs : f.cs.set j x = f'.cs) : Prep W (X.setCell ⟨W.heap.size, j, none⟩ x) t u f' := by
  have hb := ButL.setCell (G := [W.heap.size]) X W.heap.size j x (by simp)
  exact ⟨by rw [← hs]; exact h.box.setCell j x, h.res.but hb (by rw [List.mem_singleton]; omega), h.below.trans (hb.below (by simp) (by rw [h.size]; omega)), by simpa using h.size⟩
end Go.Proofs.YtildhjiddidghaaGreatDoor.R
namespace Go.Proofs.YtildhjiddidghaaGreatDoor.R
open Go.RowKit
set_option maxRecDepth 100000
set_option maxHeartbeats 1000000
attribute [-simp] Tryz.isAgg191 Tryz.sizeOf191 Tryz.isAgg207 Tryz.sizeOf207 Tryz.isAgg189
def F.fl (f : F) (z n l : Bool) : F := { f with z := z, n := n, l := l }
def F.cmp (f : F) (a b : Int) : F := f.fl (a == b) (decide (wrap32 a < wrap32 b)) (decide (a < b))
theorem Prep.set3 {W X : World} {t u : TypeId} {f : F} (h : Prep W X t u f) (z n l : Bool) : Prep W (((X.setCell ⟨W.heap.size, 16, none⟩ (.bool z)).setCell ⟨W.heap.size, 17, none⟩ (.bool n)).setCell ⟨W.heap.size, 18, none⟩ (.bool l)) t u (f.fl z n l) :=
  ((h.set (f' := { f with z := z }) 16 (.bool z) (f.set16 z)).set (f' := { f with z := z, n := n }) 17 (.bool n) (F.set17 _ n)).set (f' := f.fl z n l) 18 (.bool l) (F.set18 _ l)
theorem Prep.set2 {W X : World} {t u : TypeId} {f : F} (h : Prep W X t u f) (n l : Bool) : Prep W ((X.setCell ⟨W.heap.size, 17, none⟩ (.bool n)).setCell ⟨W.heap.size, 18, none⟩ (.bool l)) t u (f.fl f.z n l) :=
  (h.set (f' := { f with n := n }) 17 (.bool n) (f.set17 n)).set (f' := f.fl f.z n l) 18 (.bool l) (F.set18 _ l)
def F.stl (f : F) : F := if f.z then f.fl true false false else f
theorem settled_any (W : World) (f : F) : Calls Tryz.prog 184 #[f.v] W fun e W' => e = .returned f.stl.v ∧ Below W.heap.size W W' := by
  have hP := prep W 191 191 f
  have HP := hid hP
  have y16 := (hP.box.cell 16).trans f.at16
  have y17 := (hP.box.cell 17).trans f.at17
  have y18 := (hP.box.cell 18).trans f.at18
  have z17 := hP.box.free 17
  have z18 := hP.box.free 18
  have HQ := hid (hP.set2 false false)
  clear hP
  cases hz : f.z with
  | true =>
    have HS : Hid (f.fl f.z false false = f.stl) := hid (by unfold F.stl; rw [hz]; rfl)
    rw [HS.out] at HQ
    clear HS
    generalize f.stl = f' at *
    rw [hz] at y16
    clear hz
    unfold F.v
    generalize hc : f.cs.toArray = C at *
    clear hc
    go_enter Tryz.func184, Tryz.ntmps184
    go_upto_region 1 with fail
    generalize hX : (W.alloc _).alloc _ = X at *
    clear hX
    go_wp2_with (first | (refine wpList_load_f rfl _ rfl W.heap.size f' rfl HQ.out.box ?_) | (refine wpList_store_f rfl _ _ rfl (W.heap.size + 1) F.zero f' rfl rfl HQ.out.res ?_; intro w1 hc1 hb1 hs1; have HRR := hid (HQ.out.ret hc1 hb1); clear hc1 hb1 hs1))
    refine ret_st rfl rfl (W.heap.size + 1) _ rfl HRR.out.1 under27 rfl (by rw [size27]; simp [F.len]) ⟨rfl, HRR.out.2⟩
  | false =>
    have HS : Hid (f = f.stl) := hid (by unfold F.stl; rw [hz]; rfl)
    rw [← HS.out]
    clear HS HQ
    rw [hz] at y16
    clear hz
    unfold F.v
    generalize hc : f.cs.toArray = C at *
    have HC := hid hc
    clear hc
    go_enter Tryz.func184, Tryz.ntmps184
    go_upto_region 1 with fail
    generalize hX : (W.alloc _).alloc _ = X at *
    clear hX
    go_wp2_with (first | (refine wpList_load_f rfl _ rfl W.heap.size f rfl HP.out.box ?_) | (refine wpList_store_f rfl _ _ rfl (W.heap.size + 1) F.zero f rfl rfl HP.out.res ?_; intro w1 hc1 hb1 hs1; have HRR := hid (HP.out.ret hc1 hb1); clear hc1 hb1 hs1))
    refine ret_st rfl rfl (W.heap.size + 1) _ rfl HRR.out.1 under27 rfl (by rw [size27]; simp [F.len]) ⟨by rw [← HC.out], HRR.out.2⟩
end Go.Proofs.YtildhjiddidghaaGreatDoor.R
namespace Go.Proofs.YtildhjiddidghaaGreatDoor.R
open Go.RowKit
set_option maxRecDepth 100000
set_option maxHeartbeats 1000000
attribute [-simp] Tryz.isAgg191 Tryz.sizeOf191 Tryz.isAgg207 Tryz.sizeOf207 Tryz.isAgg189
def flw (z n l : Bool) : Int := if z then 1 else (if n then 2 else 0) + (if l then 4 else 0)
def F.flags (f : F) : Int := flw f.z f.n f.l
def bv (b : Bool) (x : Int) : Int := if b then x else 0
end Go.Proofs.YtildhjiddidghaaGreatDoor.R
