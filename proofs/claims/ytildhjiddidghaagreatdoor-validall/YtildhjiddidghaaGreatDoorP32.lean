import Derived.Test.YtildhjiddidghaaGreatDoorP31
import Derived.Test.YtildhjiddidghaaGreatDoorP01
import Derived.Scope
namespace Go.Proofs.YtildhjiddidghaaGreatDoor
open Go.RowKit
set_option maxHeartbeats 8000000
set_option maxRecDepth 100000
def DS.cl (d : DS) (C : List Nat) : Nat → Nat → Bool
  | 0 => fun k => (d.at k).t != 1 || ((d.at k).o == (k : Int))
  | 1 => fun k => (d.at k).t != 0 || d.zr (k : Int) 0 1024
  | 2 => fun k => (d.at k).t == 0 || ((d.at k).t == 1 || d.hasSp k)
  | 3 => fun k => (d.at k).t != 1 || ((d.at k).r == ((d.owned (k : Int)).length : Int))
  | 4 => fun k => (d.at k).t != 1 || d.born1 k
  | 5 => fun k => (d.at k).t != 1 || d.fits k
  | 6 => fun k => (d.at k).t != 1 || d.one1 k
  | 7 => fun k => (d.at k).t != 3 || (!(d.alive k) || d.names k)
  | 8 => fun k => (d.at k).t != 4 || (!(d.alive k) || d.mays k)
  | 9 => fun k => (d.at k).t != 5 || (!(d.alive k) || (((C.getD k 0 : Nat) : Int) == 1))
  | 10 => fun k => (d.at k).t != 2 || d.thr k
  | _ => fun k => (d.at k).t != 6 || d.zr (k : Int) 0 1024
theorem tl94 {W w : World} {r : Nat} {v : Vp} {p : Dp} {d : DS} (h : VS W v p d) (hbW : Below W.heap.size W w) (hr : W.heap.size ≤ r) (g1 : Nat) (hg : Cel w g1 102 [.pointer (some ⟨v.g, 0, none⟩)]) (hg1 : g1 < r) : Tells r w (.func (.func 94) #[] #[.pointer (some ⟨g1, 0, none⟩)]) d.m.ns (fun k => (d.at k).o == (k : Int)) := ⟨94, _, _, rfl, enters_of Tryz.func94 (by kernel_rfl) rfl, fun w' hb k hk => cl1_v w' v p d (h.on (below_r hbW hr hb)) g1 (hg.but hb (by rw [List.mem_singleton]; omega)) k hk⟩
theorem tl95 {W w : World} {r : Nat} {v : Vp} {p : Dp} {d : DS} (h : VS W v p d) (hbW : Below W.heap.size W w) (hr : W.heap.size ≤ r) : Tells r w (.func (.func 95) #[.pointer (some ⟨v.g, 0, none⟩)] #[]) d.m.ns (fun k => d.zr (k : Int) 0 1024) := ⟨95, _, _, rfl, enters_of Tryz.func95 (by kernel_rfl) rfl, fun w' hb k _ => isBlank_v w' v p d (h.on (below_r hbW hr hb)) (k : Int)⟩
theorem tl96 {W w : World} {r : Nat} {v : Vp} {p : Dp} {d : DS} (h : VS W v p d) (hbW : Below W.heap.size W w) (hr : W.heap.size ≤ r) (g1 : Nat) (hg : Cel w g1 102 [.pointer (some ⟨v.g, 0, none⟩)]) (hg1 : g1 < r) : Tells r w (.func (.func 96) #[] #[.pointer (some ⟨g1, 0, none⟩)]) d.m.ns (fun k => (d.at k).t == 0 || ((d.at k).t == 1 || d.hasSp k)) := ⟨96, _, _, rfl, enters_of Tryz.func96 (by kernel_rfl) rfl, fun w' hb k hk => cl2_v w' v p d (h.on (below_r hbW hr hb)) g1 (hg.but hb (by rw [List.mem_singleton]; omega)) k hk⟩
theorem tl98 {W w : World} {r : Nat} {v : Vp} {p : Dp} {d : DS} (h : VS W v p d) (hbW : Below W.heap.size W w) (hr : W.heap.size ≤ r) (g1 : Nat) (hg : Cel w g1 102 [.pointer (some ⟨v.g, 0, none⟩)]) (hg1 : g1 < r) : Tells r w (.func (.func 98) #[] #[.pointer (some ⟨g1, 0, none⟩)]) d.m.ns (fun k => (d.at k).r == ((d.owned (k : Int)).length : Int)) := ⟨98, _, _, rfl, enters_of Tryz.func98 (by kernel_rfl) rfl, fun w' hb k hk => cl3_v w' v p d (h.on (below_r hbW hr hb)) g1 (hg.but hb (by rw [List.mem_singleton]; omega)) k hk⟩
theorem tl99 {W w : World} {r : Nat} {v : Vp} {p : Dp} {d : DS} (h : VS W v p d) (hbW : Below W.heap.size W w) (hr : W.heap.size ≤ r) : Tells r w (.func (.func 99) #[.pointer (some ⟨v.g, 0, none⟩)] #[]) d.m.ns (d.born1) := ⟨99, _, _, rfl, enters_of Tryz.func99 (by kernel_rfl) rfl, fun w' hb k hk => bornAlone_v w' v p d (h.on (below_r hbW hr hb)) k hk⟩
theorem tl100 {W w : World} {r : Nat} {v : Vp} {p : Dp} {d : DS} (h : VS W v p d) (hbW : Below W.heap.size W w) (hr : W.heap.size ≤ r) (hu : d.m.U) : Tells r w (.func (.func 100) #[.pointer (some ⟨v.g, 0, none⟩)] #[]) d.m.ns (d.fits) := ⟨100, _, _, rfl, enters_of Tryz.func100 (by kernel_rfl) rfl, fun w' hb k hk => fits_v w' v p d (h.on (below_r hbW hr hb)) hu k hk⟩
theorem tl101 {W w : World} {r : Nat} {v : Vp} {p : Dp} {d : DS} (h : VS W v p d) (hbW : Below W.heap.size W w) (hr : W.heap.size ≤ r) : Tells r w (.func (.func 101) #[.pointer (some ⟨v.g, 0, none⟩)] #[]) d.m.ns (d.one1) := ⟨101, _, _, rfl, enters_of Tryz.func101 (by kernel_rfl) rfl, fun w' hb k hk => oneFirst_v w' v p d (h.on (below_r hbW hr hb)) k hk⟩
theorem tl103 {W w : World} {r : Nat} {v : Vp} {p : Dp} {d : DS} (h : VS W v p d) (hbW : Below W.heap.size W w) (hr : W.heap.size ≤ r) (hu : d.m.U) : Tells r w (.func (.func 103) #[.pointer (some ⟨v.g, 0, none⟩)] #[]) d.m.ns (d.names) := ⟨103, _, _, rfl, enters_of Tryz.func103 (by kernel_rfl) rfl, fun w' hb k hk => names_v w' v p d (h.on (below_r hbW hr hb)) hu k hk⟩
theorem tl104 {W w : World} {r : Nat} {v : Vp} {p : Dp} {d : DS} (h : VS W v p d) (hbW : Below W.heap.size W w) (hr : W.heap.size ≤ r) (hu : d.m.U) : Tells r w (.func (.func 104) #[.pointer (some ⟨v.g, 0, none⟩)] #[]) d.m.ns (d.mays) := ⟨104, _, _, rfl, enters_of Tryz.func104 (by kernel_rfl) rfl, fun w' hb k hk => mapsMay_v w' v p d (h.on (below_r hbW hr hb)) hu k hk⟩
theorem tl105 {W w : World} {r : Nat} {v : Vp} {p : Dp} {d : DS} (h : VS W v p d) (hbW : Below W.heap.size W w) (hr : W.heap.size ≤ r) (C : List Nat) (hC : MPd W v.M C) (hl : C.length = d.m.ns) (g1 : Nat) (hg : Cel w g1 102 [.pointer (some ⟨v.g, 0, none⟩)]) (hg1 : g1 < r) : Tells r w (.func (.func 105) #[] #[.pointer (some ⟨g1, 0, none⟩)]) d.m.ns (fun k => (((C.getD k 0 : Nat) : Int) == 1)) := ⟨105, _, _, rfl, enters_of Tryz.func105 (by kernel_rfl) rfl, fun w' hb k hk => cl4_v w' v p d (h.on (below_r hbW hr hb)) C (hC.on (below_r hbW hr hb)) hl g1 (hg.but hb (by rw [List.mem_singleton]; omega)) k hk⟩
theorem tl106 {W w : World} {r : Nat} {v : Vp} {p : Dp} {d : DS} (h : VS W v p d) (hbW : Below W.heap.size W w) (hr : W.heap.size ≤ r) (hu : d.m.U) : Tells r w (.func (.func 106) #[.pointer (some ⟨v.g, 0, none⟩)] #[]) d.m.ns (d.thr) := ⟨106, _, _, rfl, enters_of Tryz.func106 (by kernel_rfl) rfl, fun w' hb k hk => thread_v w' v p d (h.on (below_r hbW hr hb)) hu k hk⟩
structure K12 (W w : World) (v : Vp) (p : Dp) (d : DS) (C : List Nat) (g1 g2 : Nat) : Prop where
  vs : VS w v p d
  mp : MPd w v.M C
  bx : Cel w g1 102 [.pointer (some ⟨v.g, 0, none⟩)]
  rs : Cel w g2 104 [.nilFunc, .nilFunc, .nilFunc, .nilFunc, .nilFunc, .nilFunc, .nilFunc, .nilFunc, .nilFunc, .nilFunc, .nilFunc, .nilFunc]
  bl : Below W.heap.size W w
theorem K12.on {W w w' : World} {v : Vp} {p : Dp} {d : DS} {C : List Nat} {g1 g2 : Nat} (h : K12 W w v p d C g1 g2) (hb : Below w.heap.size w w') : K12 W w' v p d C g1 g2 := ⟨h.vs.on hb, h.mp.on hb, h.bx.on hb, h.rs.on hb, below_on h.bl hb⟩
theorem size104 : (Tryz.prog.info? 104).map (·.size) = some 12 := by kernel_rfl
theorem under104 : Tryz.prog.underlying 104 = some (.array 12 50) := by kernel_rfl
theorem clauses_v (w : World) (v : Vp) (p : Dp) (d : DS) (h : VS w v p d) (hu : d.m.U) (C : List Nat) (hC : MPd w v.M C) (hl : C.length = d.m.ns) :
    Calls Tryz.prog 57 #[.pointer (some ⟨v.g, 0, none⟩)] w fun e w' => ∃ fs : List Value, e = .returned (.agg fs.toArray) ∧ fs.length = 12 ∧ (∃ r, (∀ i, i < 12 → Tells r w' (fs.getD i undef) d.m.ns (d.cl C i))) ∧ (∀ u ∈ fs, ∃ a b c, u = .func a b c) ∧ Below w.heap.size w w' := by
  have e1 : (w.alloc (.cells #[.pointer (some ⟨v.g, 0, none⟩)] 102)).heap.size = w.heap.size + 1 := Array.size_push ..
  have K0 : Hid (K12 w ((w.alloc (.cells #[.pointer (some ⟨v.g, 0, none⟩)] 102)).alloc (.cells #[.nilFunc, .nilFunc, .nilFunc, .nilFunc, .nilFunc, .nilFunc, .nilFunc, .nilFunc, .nilFunc, .nilFunc, .nilFunc, .nilFunc] 104)) v p d C w.heap.size (w.heap.size + 1)) := hid (by
    have hb := below_on (below_one w (.cells #[.pointer (some ⟨v.g, 0, none⟩)] 102)) (below_one _ (.cells #[.nilFunc, .nilFunc, .nilFunc, .nilFunc, .nilFunc, .nilFunc, .nilFunc, .nilFunc, .nilFunc, .nilFunc, .nilFunc, .nilFunc] 104))
    refine ⟨h.on hb, hC.on hb, (Cel.new w 102 [.pointer (some ⟨v.g, 0, none⟩)]).on (below_one _ _), ?_, hb⟩
    rw [← e1]
    exact Cel.new _ 104 [.nilFunc, .nilFunc, .nilFunc, .nilFunc, .nilFunc, .nilFunc, .nilFunc, .nilFunc, .nilFunc, .nilFunc, .nilFunc, .nilFunc])
  have HU := hid hu
  have HL := hid hl
  have HV := hid h
  have HMp := hid hC
  have HAt := hid (fun (r : Nat) (hr : w.heap.size ≤ r) (w' : World) (hbW : Below w.heap.size w w') (hr2 : r < w'.heap.size) t fv F (hF : Tells r w' fv d.m.ns F) => at_v w v p d h r hr w' hbW hr2 t fv F hF)
  have HAl := hid (fun (r : Nat) (hr : w.heap.size ≤ r) (w' : World) (hbW : Below w.heap.size w w') (hr2 : r < w'.heap.size) t fv F (hF : Tells r w' fv d.m.ns F) => atAlive_v w v p d h r hr w' hbW hr2 t fv F hF)
  clear h hu hC hl e1
  go_enter Tryz.func57, Tryz.ntmps57
  go_upto_region 1 with fail
  generalize World.alloc _ _ = X at *
  generalize hg1 : w.heap.size = g1 at K0 ⊢
  generalize hg2 : g1 + 1 = g2 at *
  have HG := hid (And.intro hg1 hg2)
  clear hg1 hg2
  have HR : Hid (w.heap.size ≤ g2 ∧ g1 < g2) := hid (by have := HG.out; omega)
  have J0 := hid (K0.out.on (Below.refl _ _).drew)
  clear K0
  refine wp_region_held_drew (S := fun w => Cel w g1 102 [.pointer (some ⟨v.g, 0, none⟩)]) (by kernel_rfl) J0.out.bx (fun hHeld => ?_)
  generalize World.drew _ = x1 at *
  refine tk 0 (some 3) (.pointer (some ⟨v.g, 0, none⟩)) ?_ (hy := Or.inl ⟨by rfl, by intro w hSw; have hc : w.cell? ⟨g1, 0, none⟩ = some (.pointer (some ⟨v.g, 0, none⟩)) := hSw.cell 0; go_simp⟩)
  simp only [Act.put, tqA, tqZ, tqS]
  refine tk 1 (some 4) (.func (.func 94) #[] #[.pointer (some ⟨g1, 0, none⟩)]) ?_
  simp only [Act.put, tqA, tqZ, tqS]
  refine tk 3 (some 6) (.pointer (some ⟨v.g, 0, none⟩)) ?_ (hy := Or.inl ⟨by rfl, by intro w hSw; have hc : w.cell? ⟨g1, 0, none⟩ = some (.pointer (some ⟨v.g, 0, none⟩)) := hSw.cell 0; go_simp⟩)
  simp only [Act.put, tqA, tqZ, tqS]
  refine tk 4 (some 7) (.pointer (some ⟨v.g, 0, none⟩)) ?_ (hy := Or.inl ⟨by rfl, by intro w hSw; have hc : w.cell? ⟨g1, 0, none⟩ = some (.pointer (some ⟨v.g, 0, none⟩)) := hSw.cell 0; go_simp⟩)
  simp only [Act.put, tqA, tqZ, tqS]
  refine tk 5 (some 8) (.func (.func 95) #[.pointer (some ⟨v.g, 0, none⟩)] #[]) ?_
  simp only [Act.put, tqA, tqZ, tqS]
  refine tk 7 (some 10) (.func (.func 96) #[] #[.pointer (some ⟨g1, 0, none⟩)]) ?_
  simp only [Act.put, tqA, tqZ, tqS]
  refine tk 8 (some 11) (.pointer (some ⟨v.g, 0, none⟩)) ?_ (hy := Or.inl ⟨by rfl, by intro w hSw; have hc : w.cell? ⟨g1, 0, none⟩ = some (.pointer (some ⟨v.g, 0, none⟩)) := hSw.cell 0; go_simp⟩)
  simp only [Act.put, tqA, tqZ, tqS]
  refine tk 9 (some 12) (.func (.func 98) #[] #[.pointer (some ⟨g1, 0, none⟩)]) ?_
  simp only [Act.put, tqA, tqZ, tqS]
  refine tk 11 (some 14) (.pointer (some ⟨v.g, 0, none⟩)) ?_ (hy := Or.inl ⟨by rfl, by intro w hSw; have hc : w.cell? ⟨g1, 0, none⟩ = some (.pointer (some ⟨v.g, 0, none⟩)) := hSw.cell 0; go_simp⟩)
  simp only [Act.put, tqA, tqZ, tqS]
  refine tk 12 (some 15) (.pointer (some ⟨v.g, 0, none⟩)) ?_ (hy := Or.inl ⟨by rfl, by intro w hSw; have hc : w.cell? ⟨g1, 0, none⟩ = some (.pointer (some ⟨v.g, 0, none⟩)) := hSw.cell 0; go_simp⟩)
  simp only [Act.put, tqA, tqZ, tqS]
  refine tk 13 (some 16) (.func (.func 99) #[.pointer (some ⟨v.g, 0, none⟩)] #[]) ?_
  simp only [Act.put, tqA, tqZ, tqS]
  refine tk 15 (some 18) (.pointer (some ⟨v.g, 0, none⟩)) ?_ (hy := Or.inl ⟨by rfl, by intro w hSw; have hc : w.cell? ⟨g1, 0, none⟩ = some (.pointer (some ⟨v.g, 0, none⟩)) := hSw.cell 0; go_simp⟩)
  simp only [Act.put, tqA, tqZ, tqS]
  refine tk 16 (some 19) (.pointer (some ⟨v.g, 0, none⟩)) ?_ (hy := Or.inl ⟨by rfl, by intro w hSw; have hc : w.cell? ⟨g1, 0, none⟩ = some (.pointer (some ⟨v.g, 0, none⟩)) := hSw.cell 0; go_simp⟩)
  simp only [Act.put, tqA, tqZ, tqS]
  refine tk 17 (some 20) (.func (.func 100) #[.pointer (some ⟨v.g, 0, none⟩)] #[]) ?_
  simp only [Act.put, tqA, tqZ, tqS]
  refine tk 19 (some 22) (.pointer (some ⟨v.g, 0, none⟩)) ?_ (hy := Or.inl ⟨by rfl, by intro w hSw; have hc : w.cell? ⟨g1, 0, none⟩ = some (.pointer (some ⟨v.g, 0, none⟩)) := hSw.cell 0; go_simp⟩)
  simp only [Act.put, tqA, tqZ, tqS]
  refine tk 20 (some 23) (.pointer (some ⟨v.g, 0, none⟩)) ?_ (hy := Or.inl ⟨by rfl, by intro w hSw; have hc : w.cell? ⟨g1, 0, none⟩ = some (.pointer (some ⟨v.g, 0, none⟩)) := hSw.cell 0; go_simp⟩)
  simp only [Act.put, tqA, tqZ, tqS]
  refine tk 21 (some 24) (.func (.func 101) #[.pointer (some ⟨v.g, 0, none⟩)] #[]) ?_
  simp only [Act.put, tqA, tqZ, tqS]
  refine tk 23 (some 26) (.pointer (some ⟨v.g, 0, none⟩)) ?_ (hy := Or.inl ⟨by rfl, by intro w hSw; have hc : w.cell? ⟨g1, 0, none⟩ = some (.pointer (some ⟨v.g, 0, none⟩)) := hSw.cell 0; go_simp⟩)
  simp only [Act.put, tqA, tqZ, tqS]
  refine tk 24 (some 27) (.pointer (some ⟨v.g, 0, none⟩)) ?_ (hy := Or.inl ⟨by rfl, by intro w hSw; have hc : w.cell? ⟨g1, 0, none⟩ = some (.pointer (some ⟨v.g, 0, none⟩)) := hSw.cell 0; go_simp⟩)
  simp only [Act.put, tqA, tqZ, tqS]
  refine tk 25 (some 28) (.func (.func 103) #[.pointer (some ⟨v.g, 0, none⟩)] #[]) ?_
  simp only [Act.put, tqA, tqZ, tqS]
  refine tk 27 (some 30) (.pointer (some ⟨v.g, 0, none⟩)) ?_ (hy := Or.inl ⟨by rfl, by intro w hSw; have hc : w.cell? ⟨g1, 0, none⟩ = some (.pointer (some ⟨v.g, 0, none⟩)) := hSw.cell 0; go_simp⟩)
  simp only [Act.put, tqA, tqZ, tqS]
  refine tk 28 (some 31) (.pointer (some ⟨v.g, 0, none⟩)) ?_ (hy := Or.inl ⟨by rfl, by intro w hSw; have hc : w.cell? ⟨g1, 0, none⟩ = some (.pointer (some ⟨v.g, 0, none⟩)) := hSw.cell 0; go_simp⟩)
  simp only [Act.put, tqA, tqZ, tqS]
  refine tk 29 (some 32) (.func (.func 104) #[.pointer (some ⟨v.g, 0, none⟩)] #[]) ?_
  simp only [Act.put, tqA, tqZ, tqS]
  refine tk 31 (some 34) (.pointer (some ⟨v.g, 0, none⟩)) ?_ (hy := Or.inl ⟨by rfl, by intro w hSw; have hc : w.cell? ⟨g1, 0, none⟩ = some (.pointer (some ⟨v.g, 0, none⟩)) := hSw.cell 0; go_simp⟩)
  simp only [Act.put, tqA, tqZ, tqS]
  refine tk 32 (some 35) (.func (.func 105) #[] #[.pointer (some ⟨g1, 0, none⟩)]) ?_
  simp only [Act.put, tqA, tqZ, tqS]
  refine tk 34 (some 37) (.pointer (some ⟨v.g, 0, none⟩)) ?_ (hy := Or.inl ⟨by rfl, by intro w hSw; have hc : w.cell? ⟨g1, 0, none⟩ = some (.pointer (some ⟨v.g, 0, none⟩)) := hSw.cell 0; go_simp⟩)
  simp only [Act.put, tqA, tqZ, tqS]
  refine tk 35 (some 38) (.pointer (some ⟨v.g, 0, none⟩)) ?_ (hy := Or.inl ⟨by rfl, by intro w hSw; have hc : w.cell? ⟨g1, 0, none⟩ = some (.pointer (some ⟨v.g, 0, none⟩)) := hSw.cell 0; go_simp⟩)
  simp only [Act.put, tqA, tqZ, tqS]
  refine tk 36 (some 39) (.func (.func 106) #[.pointer (some ⟨v.g, 0, none⟩)] #[]) ?_
  simp only [Act.put, tqA, tqZ, tqS]
  refine tk 38 (some 41) (.pointer (some ⟨v.g, 0, none⟩)) ?_ (hy := Or.inl ⟨by rfl, by intro w hSw; have hc : w.cell? ⟨g1, 0, none⟩ = some (.pointer (some ⟨v.g, 0, none⟩)) := hSw.cell 0; go_simp⟩)
  simp only [Act.put, tqA, tqZ, tqS]
  refine tk 39 (some 42) (.pointer (some ⟨v.g, 0, none⟩)) ?_ (hy := Or.inl ⟨by rfl, by intro w hSw; have hc : w.cell? ⟨g1, 0, none⟩ = some (.pointer (some ⟨v.g, 0, none⟩)) := hSw.cell 0; go_simp⟩)
  simp only [Act.put, tqA, tqZ, tqS]
  refine tk 40 (some 43) (.func (.func 95) #[.pointer (some ⟨v.g, 0, none⟩)] #[]) ?_
  simp only [Act.put, tqA, tqZ, tqS]
  refine wpAnyH_ready (rs := [2]) (by kernel_rfl) (by simp) (AllReadyH.cons (o := ⟨some 5, .call { callee := .value (.func 93), args := #[.tmp 3, .const (.int .i64 1), .tmp 4], argTypes := #[102, 76, 50] }, 50, "clauses.go:12", #[⟨0, .data⟩, ⟨1, .data⟩], none⟩) rfl (fun KQ hK => ?_) AllReadyH.nil)
  go_simp
  refine (HAt.out g2 HR.out.1 _ J0.out.bl J0.out.rs.lt 1 _ _ (tl94 HV.out J0.out.bl HR.out.1 g1 J0.out.bx HR.out.2)).mono ?_
  rintro e w0 ⟨f0, rfl, hf, hb⟩
  obtain ⟨a0, b0, c0, he⟩ : ∃ a b c, f0 = .func (.func a) b c := by obtain ⟨a, b, c, e, _⟩ := hf; exact ⟨a, b, c, e⟩
  subst he
  have J1 := hid (J0.out.on hb)
  have T0 := hid hf
  clear hf hb J0
  go_wp2_with fail
  refine hK.out _ _ J1.out.bx (fun hHeld => ?_)
  clear hK KQ
  try simp only [Act.put, tqA, tqZ, tqS]
  refine wpAnyH_ready (rs := [6]) (by kernel_rfl) (by simp) (AllReadyH.cons (o := ⟨some 9, .call { callee := .value (.func 93), args := #[.tmp 6, .const (.int .i64 0), .tmp 8], argTypes := #[102, 76, 50] }, 50, "clauses.go:13", #[⟨3, .data⟩, ⟨5, .data⟩, ⟨2, .chain⟩], none⟩) rfl (fun KQ hK => ?_) AllReadyH.nil)
  go_simp
  refine (HAt.out g2 HR.out.1 _ J1.out.bl J1.out.rs.lt 0 _ _ (tl95 HV.out J1.out.bl HR.out.1)).mono ?_
  rintro e w1 ⟨f1, rfl, hf, hb⟩
  obtain ⟨a1, b1, c1, he⟩ : ∃ a b c, f1 = .func (.func a) b c := by obtain ⟨a, b, c, e, _⟩ := hf; exact ⟨a, b, c, e⟩
  subst he
  have J2 := hid (J1.out.on hb)
  replace T0 := hid (T0.out.on hb)
  have T1 := hid hf
  clear hf hb J1
  go_wp2_with fail
  refine hK.out _ _ J2.out.bx (fun hHeld => ?_)
  clear hK KQ
  try simp only [Act.put, tqA, tqZ, tqS]
  refine wpAnyH_ready (rs := [10]) (by kernel_rfl) (by simp) (AllReadyH.cons (o := ⟨some 13, .call { callee := .value (.func 93), args := #[.tmp 11, .const (.int .i64 1), .tmp 12], argTypes := #[102, 76, 50] }, 50, "clauses.go:18", #[⟨8, .data⟩, ⟨9, .data⟩, ⟨6, .chain⟩], none⟩) rfl (fun KQ hK => ?_) AllReadyH.nil)
  go_simp
  refine (HAt.out g2 HR.out.1 _ J2.out.bl J2.out.rs.lt 1 _ _ (tl98 HV.out J2.out.bl HR.out.1 g1 J2.out.bx HR.out.2)).mono ?_
  rintro e w2 ⟨f3, rfl, hf, hb⟩
  obtain ⟨a3, b3, c3, he⟩ : ∃ a b c, f3 = .func (.func a) b c := by obtain ⟨a, b, c, e, _⟩ := hf; exact ⟨a, b, c, e⟩
  subst he
  have J3 := hid (J2.out.on hb)
  replace T0 := hid (T0.out.on hb)
  replace T1 := hid (T1.out.on hb)
  have T3 := hid hf
  clear hf hb J2
  go_wp2_with fail
  refine hK.out _ _ J3.out.bx (fun hHeld => ?_)
  clear hK KQ
  try simp only [Act.put, tqA, tqZ, tqS]
  refine wpAnyH_ready (rs := [14]) (by kernel_rfl) (by simp) (AllReadyH.cons (o := ⟨some 17, .call { callee := .value (.func 93), args := #[.tmp 14, .const (.int .i64 1), .tmp 16], argTypes := #[102, 76, 50] }, 50, "clauses.go:19", #[⟨11, .data⟩, ⟨13, .data⟩, ⟨10, .chain⟩], none⟩) rfl (fun KQ hK => ?_) AllReadyH.nil)
  go_simp
  refine (HAt.out g2 HR.out.1 _ J3.out.bl J3.out.rs.lt 1 _ _ (tl99 HV.out J3.out.bl HR.out.1)).mono ?_
  rintro e w3 ⟨f4, rfl, hf, hb⟩
  obtain ⟨a4, b4, c4, he⟩ : ∃ a b c, f4 = .func (.func a) b c := by obtain ⟨a, b, c, e, _⟩ := hf; exact ⟨a, b, c, e⟩
  subst he
  have J4 := hid (J3.out.on hb)
  replace T0 := hid (T0.out.on hb)
  replace T1 := hid (T1.out.on hb)
  replace T3 := hid (T3.out.on hb)
  have T4 := hid hf
  clear hf hb J3
  go_wp2_with fail
  refine hK.out _ _ J4.out.bx (fun hHeld => ?_)
  clear hK KQ
  try simp only [Act.put, tqA, tqZ, tqS]
  refine wpAnyH_ready (rs := [18]) (by kernel_rfl) (by simp) (AllReadyH.cons (o := ⟨some 21, .call { callee := .value (.func 93), args := #[.tmp 18, .const (.int .i64 1), .tmp 20], argTypes := #[102, 76, 50] }, 50, "clauses.go:20", #[⟨15, .data⟩, ⟨17, .data⟩, ⟨14, .chain⟩], none⟩) rfl (fun KQ hK => ?_) AllReadyH.nil)
  go_simp
  refine (HAt.out g2 HR.out.1 _ J4.out.bl J4.out.rs.lt 1 _ _ (tl100 HV.out J4.out.bl HR.out.1 HU.out)).mono ?_
  rintro e w4 ⟨f5, rfl, hf, hb⟩
  obtain ⟨a5, b5, c5, he⟩ : ∃ a b c, f5 = .func (.func a) b c := by obtain ⟨a, b, c, e, _⟩ := hf; exact ⟨a, b, c, e⟩
  subst he
  have J5 := hid (J4.out.on hb)
  replace T0 := hid (T0.out.on hb)
  replace T1 := hid (T1.out.on hb)
  replace T3 := hid (T3.out.on hb)
  replace T4 := hid (T4.out.on hb)
  have T5 := hid hf
  clear hf hb J4
  go_wp2_with fail
  refine hK.out _ _ J5.out.bx (fun hHeld => ?_)
  clear hK KQ
  try simp only [Act.put, tqA, tqZ, tqS]
  refine wpAnyH_ready (rs := [22]) (by kernel_rfl) (by simp) (AllReadyH.cons (o := ⟨some 25, .call { callee := .value (.func 93), args := #[.tmp 22, .const (.int .i64 1), .tmp 24], argTypes := #[102, 76, 50] }, 50, "clauses.go:21", #[⟨19, .data⟩, ⟨21, .data⟩, ⟨18, .chain⟩], none⟩) rfl (fun KQ hK => ?_) AllReadyH.nil)
  go_simp
  refine (HAt.out g2 HR.out.1 _ J5.out.bl J5.out.rs.lt 1 _ _ (tl101 HV.out J5.out.bl HR.out.1)).mono ?_
  rintro e w5 ⟨f6, rfl, hf, hb⟩
  obtain ⟨a6, b6, c6, he⟩ : ∃ a b c, f6 = .func (.func a) b c := by obtain ⟨a, b, c, e, _⟩ := hf; exact ⟨a, b, c, e⟩
  subst he
  have J6 := hid (J5.out.on hb)
  replace T0 := hid (T0.out.on hb)
  replace T1 := hid (T1.out.on hb)
  replace T3 := hid (T3.out.on hb)
  replace T4 := hid (T4.out.on hb)
  replace T5 := hid (T5.out.on hb)
  have T6 := hid hf
  clear hf hb J5
  go_wp2_with fail
  refine hK.out _ _ J6.out.bx (fun hHeld => ?_)
  clear hK KQ
  try simp only [Act.put, tqA, tqZ, tqS]
  refine wpAnyH_ready (rs := [26]) (by kernel_rfl) (by simp) (AllReadyH.cons (o := ⟨some 29, .call { callee := .value (.func 102), args := #[.tmp 26, .const (.int .i64 3), .tmp 28], argTypes := #[102, 76, 50] }, 50, "clauses.go:22", #[⟨23, .data⟩, ⟨25, .data⟩, ⟨22, .chain⟩], none⟩) rfl (fun KQ hK => ?_) AllReadyH.nil)
  go_simp
  refine (HAl.out g2 HR.out.1 _ J6.out.bl J6.out.rs.lt 3 _ _ (tl103 HV.out J6.out.bl HR.out.1 HU.out)).mono ?_
  rintro e w6 ⟨f7, rfl, hf, hb⟩
  obtain ⟨a7, b7, c7, he⟩ : ∃ a b c, f7 = .func (.func a) b c := by obtain ⟨a, b, c, e, _⟩ := hf; exact ⟨a, b, c, e⟩
  subst he
  have J7 := hid (J6.out.on hb)
  replace T0 := hid (T0.out.on hb)
  replace T1 := hid (T1.out.on hb)
  replace T3 := hid (T3.out.on hb)
  replace T4 := hid (T4.out.on hb)
  replace T5 := hid (T5.out.on hb)
  replace T6 := hid (T6.out.on hb)
  have T7 := hid hf
  clear hf hb J6
  go_wp2_with fail
  refine hK.out _ _ J7.out.bx (fun hHeld => ?_)
  clear hK KQ
  try simp only [Act.put, tqA, tqZ, tqS]
  refine wpAnyH_ready (rs := [30]) (by kernel_rfl) (by simp) (AllReadyH.cons (o := ⟨some 33, .call { callee := .value (.func 102), args := #[.tmp 30, .const (.int .i64 4), .tmp 32], argTypes := #[102, 76, 50] }, 50, "clauses.go:23", #[⟨27, .data⟩, ⟨29, .data⟩, ⟨26, .chain⟩], none⟩) rfl (fun KQ hK => ?_) AllReadyH.nil)
  go_simp
  refine (HAl.out g2 HR.out.1 _ J7.out.bl J7.out.rs.lt 4 _ _ (tl104 HV.out J7.out.bl HR.out.1 HU.out)).mono ?_
  rintro e w7 ⟨f8, rfl, hf, hb⟩
  obtain ⟨a8, b8, c8, he⟩ : ∃ a b c, f8 = .func (.func a) b c := by obtain ⟨a, b, c, e, _⟩ := hf; exact ⟨a, b, c, e⟩
  subst he
  have J8 := hid (J7.out.on hb)
  replace T0 := hid (T0.out.on hb)
  replace T1 := hid (T1.out.on hb)
  replace T3 := hid (T3.out.on hb)
  replace T4 := hid (T4.out.on hb)
  replace T5 := hid (T5.out.on hb)
  replace T6 := hid (T6.out.on hb)
  replace T7 := hid (T7.out.on hb)
  have T8 := hid hf
  clear hf hb J7
  go_wp2_with fail
  refine hK.out _ _ J8.out.bx (fun hHeld => ?_)
  clear hK KQ
  try simp only [Act.put, tqA, tqZ, tqS]
  refine wpAnyH_ready (rs := [33]) (by kernel_rfl) (by simp) (AllReadyH.cons (o := ⟨some 36, .call { callee := .value (.func 102), args := #[.tmp 34, .const (.int .i64 5), .tmp 35], argTypes := #[102, 76, 50] }, 50, "clauses.go:24", #[⟨31, .data⟩, ⟨32, .data⟩, ⟨30, .chain⟩], none⟩) rfl (fun KQ hK => ?_) AllReadyH.nil)
  go_simp
  refine (HAl.out g2 HR.out.1 _ J8.out.bl J8.out.rs.lt 5 _ _ (tl105 HV.out J8.out.bl HR.out.1 C HMp.out HL.out g1 J8.out.bx HR.out.2)).mono ?_
  rintro e w8 ⟨f9, rfl, hf, hb⟩
  obtain ⟨a9, b9, c9, he⟩ : ∃ a b c, f9 = .func (.func a) b c := by obtain ⟨a, b, c, e, _⟩ := hf; exact ⟨a, b, c, e⟩
  subst he
  have J9 := hid (J8.out.on hb)
  replace T0 := hid (T0.out.on hb)
  replace T1 := hid (T1.out.on hb)
  replace T3 := hid (T3.out.on hb)
  replace T4 := hid (T4.out.on hb)
  replace T5 := hid (T5.out.on hb)
  replace T6 := hid (T6.out.on hb)
  replace T7 := hid (T7.out.on hb)
  replace T8 := hid (T8.out.on hb)
  have T9 := hid hf
  clear hf hb J8
  go_wp2_with fail
  refine hK.out _ _ J9.out.bx (fun hHeld => ?_)
  clear hK KQ
  try simp only [Act.put, tqA, tqZ, tqS]
  refine wpAnyH_ready (rs := [37]) (by kernel_rfl) (by simp) (AllReadyH.cons (o := ⟨some 40, .call { callee := .value (.func 93), args := #[.tmp 37, .const (.int .i64 2), .tmp 39], argTypes := #[102, 76, 50] }, 50, "clauses.go:25", #[⟨34, .data⟩, ⟨36, .data⟩, ⟨33, .chain⟩], none⟩) rfl (fun KQ hK => ?_) AllReadyH.nil)
  go_simp
  refine (HAt.out g2 HR.out.1 _ J9.out.bl J9.out.rs.lt 2 _ _ (tl106 HV.out J9.out.bl HR.out.1 HU.out)).mono ?_
  rintro e w9 ⟨f10, rfl, hf, hb⟩
  obtain ⟨a10, b10, c10, he⟩ : ∃ a b c, f10 = .func (.func a) b c := by obtain ⟨a, b, c, e, _⟩ := hf; exact ⟨a, b, c, e⟩
  subst he
  have J10 := hid (J9.out.on hb)
  replace T0 := hid (T0.out.on hb)
  replace T1 := hid (T1.out.on hb)
  replace T3 := hid (T3.out.on hb)
  replace T4 := hid (T4.out.on hb)
  replace T5 := hid (T5.out.on hb)
  replace T6 := hid (T6.out.on hb)
  replace T7 := hid (T7.out.on hb)
  replace T8 := hid (T8.out.on hb)
  replace T9 := hid (T9.out.on hb)
  have T10 := hid hf
  clear hf hb J9
  go_wp2_with fail
  refine hK.out _ _ J10.out.bx (fun hHeld => ?_)
  clear hK KQ
  try simp only [Act.put, tqA, tqZ, tqS]
  refine wpAnyH_ready (rs := [41]) (by kernel_rfl) (by simp) (AllReadyH.cons (o := ⟨some 44, .call { callee := .value (.func 93), args := #[.tmp 41, .const (.int .i64 6), .tmp 43], argTypes := #[102, 76, 50] }, 50, "clauses.go:26", #[⟨38, .data⟩, ⟨40, .data⟩, ⟨37, .chain⟩], none⟩) rfl (fun KQ hK => ?_) AllReadyH.nil)
  go_simp
  refine (HAt.out g2 HR.out.1 _ J10.out.bl J10.out.rs.lt 6 _ _ (tl95 HV.out J10.out.bl HR.out.1)).mono ?_
  rintro e w10 ⟨f11, rfl, hf, hb⟩
  obtain ⟨a11, b11, c11, he⟩ : ∃ a b c, f11 = .func (.func a) b c := by obtain ⟨a, b, c, e, _⟩ := hf; exact ⟨a, b, c, e⟩
  subst he
  have J11 := hid (J10.out.on hb)
  replace T0 := hid (T0.out.on hb)
  replace T1 := hid (T1.out.on hb)
  replace T3 := hid (T3.out.on hb)
  replace T4 := hid (T4.out.on hb)
  replace T5 := hid (T5.out.on hb)
  replace T6 := hid (T6.out.on hb)
  replace T7 := hid (T7.out.on hb)
  replace T8 := hid (T8.out.on hb)
  replace T9 := hid (T9.out.on hb)
  replace T10 := hid (T10.out.on hb)
  have T11 := hid hf
  clear hf hb J10
  go_wp2_with fail
  refine hK.out _ _ J11.out.bx (fun hHeld => ?_)
  clear hK KQ
  try simp only [Act.put, tqA, tqZ, tqS]
  refine tk 42 (some 45) (.agg #[(.func (.func a0) b0 c0), (.func (.func a1) b1 c1), (.func (.func 96) #[] #[.pointer (some ⟨g1, 0, none⟩)]), (.func (.func a3) b3 c3), (.func (.func a4) b4 c4), (.func (.func a5) b5 c5), (.func (.func a6) b6 c6), (.func (.func a7) b7 c7), (.func (.func a8) b8 c8), (.func (.func a9) b9 c9), (.func (.func a10) b10 c10), (.func (.func a11) b11 c11)]) ?_
  simp only [Act.put, tqA, tqZ, tqS]
  refine wpAnyH_ready (rs := [43]) (by kernel_rfl) (by simp) (AllReadyH.cons (o := ⟨none, .store 104 (.tmp 2) (.tmp 45), 0, "clauses.go:11", #[⟨42, .data⟩, ⟨41, .chain⟩, ⟨0, .phase⟩, ⟨1, .phase⟩, ⟨2, .phase⟩, ⟨3, .phase⟩, ⟨4, .phase⟩, ⟨5, .phase⟩, ⟨6, .phase⟩, ⟨7, .phase⟩, ⟨8, .phase⟩, ⟨9, .phase⟩, ⟨10, .phase⟩, ⟨11, .phase⟩, ⟨12, .phase⟩, ⟨13, .phase⟩, ⟨14, .phase⟩, ⟨15, .phase⟩, ⟨16, .phase⟩, ⟨17, .phase⟩, ⟨18, .phase⟩, ⟨19, .phase⟩, ⟨20, .phase⟩, ⟨21, .phase⟩, ⟨22, .phase⟩, ⟨23, .phase⟩, ⟨24, .phase⟩, ⟨25, .phase⟩, ⟨26, .phase⟩, ⟨27, .phase⟩, ⟨28, .phase⟩, ⟨29, .phase⟩, ⟨30, .phase⟩, ⟨31, .phase⟩, ⟨32, .phase⟩, ⟨33, .phase⟩, ⟨34, .phase⟩, ⟨35, .phase⟩, ⟨36, .phase⟩, ⟨37, .phase⟩, ⟨38, .phase⟩, ⟨39, .phase⟩, ⟨40, .phase⟩, ⟨41, .phase⟩, ⟨42, .phase⟩], none⟩) rfl (fun KQ hK => ?_) AllReadyH.nil)
  rw [if_pos (by rfl)]
  refine wp_store_st 104 _ _ rfl g2 [(.func (.func a0) b0 c0), (.func (.func a1) b1 c1), (.func (.func 96) #[] #[.pointer (some ⟨g1, 0, none⟩)]), (.func (.func a3) b3 c3), (.func (.func a4) b4 c4), (.func (.func a5) b5 c5), (.func (.func a6) b6 c6), (.func (.func a7) b7 c7), (.func (.func a8) b8 c8), (.func (.func a9) b9 c9), (.func (.func a10) b10 c10), (.func (.func a11) b11 c11)] rfl rfl J11.out.rs size104 rfl rfl ?_
  intro wz hc hb hs
  have HE := hid (And.intro hc (J11.out.bl.trans (hb.below (B := w.heap.size) (fun k hk => by rw [List.mem_singleton] at hk; have := HG.out; omega) J11.out.bl.size)))
  have HBx := hid (J11.out.bx.but hb (by rw [List.mem_singleton]; have := HG.out; omega))
  have HTs := hid hb
  clear hc hs
  refine hK.out _ _ HBx.out (fun hHeld => ?_)
  clear hK KQ
  try simp only [Act.put]
  refine wpAnyH_done (by kernel_rfl) ?_ _
  go_wp2_with fail
  refine ret_st rfl rfl g2 _ rfl HE.out.1 under104 rfl (by rw [size104]; rfl) ⟨[(.func (.func a0) b0 c0), (.func (.func a1) b1 c1), (.func (.func 96) #[] #[.pointer (some ⟨g1, 0, none⟩)]), (.func (.func a3) b3 c3), (.func (.func a4) b4 c4), (.func (.func a5) b5 c5), (.func (.func a6) b6 c6), (.func (.func a7) b7 c7), (.func (.func a8) b8 c8), (.func (.func a9) b9 c9), (.func (.func a10) b10 c10), (.func (.func a11) b11 c11)], rfl, rfl, ⟨g2, fun i hi => ?_⟩, fun u hu => ?_, HE.out.2⟩
  · have T2 : Tells g2 w10 (.func (.func 96) #[] #[.pointer (some ⟨g1, 0, none⟩)]) d.m.ns (fun k => (d.at k).t == 0 || ((d.at k).t == 1 || d.hasSp k)) := tl96 HV.out J11.out.bl HR.out.1 g1 J11.out.bx HR.out.2
    match i, hi with
    | 0, _ => exact T0.out.st HTs.out
    | 1, _ => exact T1.out.st HTs.out
    | 2, _ => exact T2.st HTs.out
    | 3, _ => exact T3.out.st HTs.out
    | 4, _ => exact T4.out.st HTs.out
    | 5, _ => exact T5.out.st HTs.out
    | 6, _ => exact T6.out.st HTs.out
    | 7, _ => exact T7.out.st HTs.out
    | 8, _ => exact T8.out.st HTs.out
    | 9, _ => exact T9.out.st HTs.out
    | 10, _ => exact T10.out.st HTs.out
    | 11, _ => exact T11.out.st HTs.out
    | i + 12, hi => omega
  · simp only [List.mem_cons, List.not_mem_nil, or_false] at hu
    rcases hu with rfl | rfl | rfl | rfl | rfl | rfl | rfl | rfl | rfl | rfl | rfl | rfl <;> exact ⟨_, _, _, rfl⟩
end Go.Proofs.YtildhjiddidghaaGreatDoor
namespace Go.Proofs.YtildhjiddidghaaGreatDoor
open Go.RowKit
set_option maxHeartbeats 8000000
set_option maxRecDepth 100000
theorem under106 : Tryz.prog.underlying 106 = some (.slice 92) := by kernel_rfl
theorem info92 : (Tryz.prog.info? 92).map (fun i => (i.zero, i.size, i.bytes)) = some (some En.zero.v, 5, 40) := by kernel_rfl
theorem csn_one (x : En) : ∀ u ∈ x.cs, u.oneCell' = true := by
  intro u hu
  simp only [En.cs, List.mem_cons, List.not_mem_nil, or_false] at hu
  rcases hu with rfl | rfl | rfl | rfl | rfl <;> rfl
theorem wp_append_n {B : Nat} {w : World} {o : Oper} {a : Act} {K : Act → World → Prop} {Q : Exit → Act → World → Prop} (s x : Operand)
    (ho : o.op = .call { callee := .builtin .append, args := #[s, x], argTypes := #[106, 106] }) (v : Value) (E : List En) (hs : a.eval s = v) (H : w.ownsRow B 92 5 v E.length (ecs E)) (hB : B ≤ w.heap.size) (ad : Addr) (c : Nat) (y : En) (hx : a.eval x = .slice (some ad) 1 c)
    (hsrc : ∀ j u, y.cs[j]? = some u → w.cell? (ad.add j) = some u) (hlen : E.length ≤ 1000)
    (h : ∀ v' w', w'.ownsRow B 92 5 v' (E ++ [y]).length (ecs (E ++ [y])) → w.grownBy w' v.ownBlock → K (a.put o.dst v') w') : o.wp Tryz.prog a w K Q := by
  obtain ⟨i, hi, hz, hsize, hby⟩ := info_parts info92
  obtain ⟨v', w', hr, h1, h2, _⟩ := run_append_own (P := Tryz.prog) w B 106 o.type 92 i En.zero.v 5 40 under106 hi hz hsize hby rfl (by decide) v E.length _ H ad 1 c y.cs rfl hsrc (csn_one y) (by unfold maxLen; omega) (by omega) hB
  have hH : w'.ownsRow B 92 5 v' (E ++ [y]).length (ecs (E ++ [y])) := by
    rw [List.length_append, show ecs (E ++ [y]) = ecs E ++ y.cs by simp [ecs]]
    exact h1
  unfold Oper.wp execOp
  simp only [ho, resolve, invoke, builtin, Sem.run_bind, Sem.run_pure, Result.andThen_ok, List.map_toArray, List.map_cons, List.map_nil, hs, hx, hr]
  exact h _ _ hH h2
theorem ownn_blk {w : World} {B : Nat} {v : Value} {n : Nat} {L : List Value} (h : w.ownsRow B 92 5 v n L) {b : Nat} (hb : v.ownBlock = some b) : B ≤ b ∧ ∃ cur, w.heap[b]? = some (.cells cur 92 (0, 0)) := by
  rcases h.2 with ⟨hv, h0⟩ | ⟨g, cap, cur, hv, hB, hg, r⟩
  · rw [hv] at hb; cases hb
  · rw [hv] at hb
    have : g = b := by injection hb
    subst this
    exact ⟨hB, cur, hg⟩
theorem ownn_but {w w' : World} {B : Nat} {v : Value} {n : Nat} {L : List Value} {G : List Nat} (h : w.ownsRow B 92 5 v n L) (hb : ButL G w w') (hn : ∀ b, v.ownBlock = some b → b ∉ G) : w'.ownsRow B 92 5 v n L :=
  ⟨h.1, h.2.imp id fun ⟨g, cap, cur, hv, hB, hg, r⟩ => ⟨g, cap, cur, hv, hB, (hb.block g (Array.getElem?_eq_some_iff.1 hg).1 (hn g (by rw [hv]; rfl))).trans hg, r⟩⟩
theorem ownn_form {w : World} {B : Nat} {v : Value} {n : Nat} {L : List Value} (h : w.ownsRow B 92 5 v n L) : ∃ ao c, v = .slice ao n c := by
  rcases h.2 with ⟨hv, h0⟩ | ⟨g, cap, cur, hv, r⟩
  · exact ⟨none, 0, by rw [hv, h0]⟩
  · exact ⟨_, cap, hv⟩
structure LK (W w : World) (g : Nat) (v : Value) (p : Dp) (d : DS) (E : List En) : Prop where
  own : w.ownsRow W.heap.size 92 5 v E.length (ecs E)
  cel : Cel w g 108 [.pointer (some ⟨p.g, 0, none⟩), .pointer (some ⟨p.f.gm, 0, none⟩), v, .slice none 0 0]
  hg : W.heap.size ≤ g
  db : DB W p d
  bl : Below W.heap.size W w
theorem LK.on {W w w' : World} {g : Nat} {v : Value} {p : Dp} {d : DS} {E : List En} (h : LK W w g v p d E) (hb : Below w.heap.size w w') : LK W w' g v p d E :=
  ⟨ownn_but h.own (.of (G := []) hb) (by simp), h.cel.on hb, h.hg, h.db, below_on h.bl hb⟩
theorem LK.snoc {W w w' : World} {g : Nat} {v v' : Value} {p : Dp} {d : DS} {E E' : List En} (h : LK W w g v p d E) (h2 : w'.ownsRow W.heap.size 92 5 v' E'.length (ecs E')) (hgr : w.grownBy w' v.ownBlock) :
    LK W (w'.setCell ⟨g, 2, none⟩ v') g v' p d E' ∧ w'.cell? ⟨g, 2, none⟩ = some v ∧ w'.frozen? ⟨g, 2, none⟩ = false := by
  obtain ⟨G, hG⟩ : ∃ G : List Nat, G = v.ownBlock.toList := ⟨_, rfl⟩
  have hbt : ButL G w w' := grown_but hgr (fun b hb => by rw [hG, hb]; simp)
  have hGe : ∀ k ∈ G, W.heap.size ≤ k ∧ ∃ cur, w.heap[k]? = some (.cells cur 92 (0, 0)) := fun k hk => by
    rw [hG, Option.mem_toList] at hk
    exact ownn_blk h.own hk
  have hgG : g ∉ G := fun hk => by
    obtain ⟨_, cur, hc⟩ := hGe g hk
    have hc' : Cel w g 92 cur.toList := by show w.heap[g]? = _; rw [hc]
    exact absurd (h.cel.ty hc') (by decide)
  have hcel := h.cel.but hbt hgG
  have hb1 : ButL [g] w' (w'.setCell ⟨g, 2, none⟩ v') := .setCell _ _ _ _ (by simp)
  have hbl := h.bl.trans (hbt.below (B := W.heap.size) (fun k hk => (hGe k hk).1) h.bl.size)
  refine ⟨⟨ownn_but h2 hb1 (fun k hk hm => ?_), hcel.setCell 2 v', h.hg, h.db, hbl.trans (hb1.below (B := W.heap.size) (fun k hk => by rw [List.mem_singleton] at hk; rw [hk]; exact h.hg) hbl.size)⟩, hcel.cell 2, hcel.free 2⟩
  rw [List.mem_singleton] at hm
  subst hm
  obtain ⟨_, cur, hc⟩ := ownn_blk h2 hk
  have hc' : Cel w' k 92 cur.toList := by show w'.heap[k]? = _; rw [hc]
  exact absurd (hcel.ty hc') (by decide)
theorem LK.done {W w : World} {g : Nat} {v : Value} {p : Dp} {d : DS} (h : LK W w g v p d d.E) (h0 : 0 < d.m.ns) : ∃ ge ce, VS w ⟨g, ge, ce, .slice none 0 0⟩ p d ∧ W.heap.size ≤ ge := by
  have hl := h.db.ok.len
  rcases h.own.2 with ⟨hv, h1⟩ | ⟨ge, cap, cur, hv, hB, hg, hle, hm, hsz, ht⟩
  · omega
  · refine ⟨ge, cap, ⟨h.db.on h.bl, ?_, ⟨cur.toList.drop (d.E.length * 5), ?_⟩⟩, hB⟩
    · have := h.cel
      rw [hv, hl] at this
      exact this
    · show w.heap[ge]? = _
      rw [hg]
      show some (Obj.cells cur 92 (0, 0)) = some (.cells (ecs d.E ++ cur.toList.drop (d.E.length * 5)).toArray 92 (0, 0))
      rw [← ht, List.take_append_drop]
structure LKX (W w : World) (g : Nat) (v : Value) (p : Dp) (d : DS) (E : List En) (k : Nat) (x : En) : Prop where
  l : LK W w g v p d E
  c : Cel w k 92 x.cs
  ap : ∀ j, v.ownBlock = some j → j < k
theorem LKX.on {W w w' : World} {g : Nat} {v : Value} {p : Dp} {d : DS} {E : List En} {k : Nat} {x : En} (h : LKX W w g v p d E k x) (hb : Below w.heap.size w w') : LKX W w' g v p d E k x := ⟨h.l.on hb, h.c.on hb, h.ap⟩
theorem LK.apart {W w : World} {g : Nat} {v : Value} {p : Dp} {d : DS} {E : List En} (h : LK W w g v p d E) {k : Nat} (hk : v.ownBlock = some k) : k < w.heap.size := by
  obtain ⟨_, cur, hc⟩ := ownn_blk h.own hk
  exact (Array.getElem?_eq_some_iff.1 hc).1
theorem LK.boxput {W w w' : World} {g : Nat} {v : Value} {p : Dp} {d : DS} {E : List En} {x : En} {o : Obj} (h : LK W w g v p d E) (hc : Cel w' w.heap.size 92 x.cs) (hb : ButL [w.heap.size] (w.alloc o) w') : LKX W w' g v p d E w.heap.size x :=
  ⟨h.on ((below_one w o).trans (hb.below (B := w.heap.size) (by simp) (by simp))), hc, fun _ hj => h.apart hj⟩
theorem grownn_cel {w w' : World} {v : Value} {g : Nat} {t : TypeId} {cs : List Value} (hc : Cel w g t cs) (hgr : w.grownBy w' v.ownBlock) (hn : ∀ k, v.ownBlock = some k → k < g) : Cel w' g t cs :=
  hc.but (grown_but hgr (G := v.ownBlock.toList) (fun b hb => by rw [hb]; simp)) (fun hm => by rw [Option.mem_toList] at hm; have := hn g hm; omega)
theorem look_v (W : World) (p : Dp) (d : DS) (h : DB W p d) (hu : d.m.U) (h0 : 0 < d.m.ns) :
    Calls Tryz.prog 56 #[.pointer (some ⟨p.g, 0, none⟩)] W fun e w' => ∃ v : Vp, e = .returned (.pointer (some ⟨v.g, 0, none⟩)) ∧ VS w' v p d ∧ MPd w' v.M (d.mcL d.m.ns) ∧ Below W.heap.size W w' := by
  have HM := hid (memory_any W p d h)
  have HPg := hid (fun w (h : DB w p d) => pages_any w p d h)
  have HEn : Hid (∀ w (j : Nat), j < d.m.ns → DB w p d → Calls Tryz.prog 49 #[.pointer (some ⟨p.g, 0, none⟩), .int .i64 (j : Int)] w fun x W' => x = .returned (.tuple #[.agg (d.at j).cs.toArray, .int .i64 (d.entE (j : Int))]) ∧ Below w.heap.size w W') := hid (fun w j hj hw => by
    have := entry_any w p d hw (j : Int)
    rw [ent_at (d := d) (q := (j : Int)) (by unfold DS.there; simp; omega)] at this
    exact this)
  have HS : Hid (∀ j, j < d.m.ns → d.E.take j ++ [d.at j] = d.E.take (j + 1)) := hid (fun j hj => by
    have hl : j < d.E.length := by rw [h.ok.len]; exact hj
    rw [List.take_succ_eq_append_getElem hl]
    congr 2
    rw [DS.at, List.getD_eq_getElem?_getD, List.getElem?_eq_getElem hl]
    rfl)
  have HFl : Hid (d.E.take d.m.ns = d.E) := hid (List.take_of_length_le (by rw [h.ok.len]; exact Nat.le_refl _))
  have HLn : Hid (∀ j, j ≤ d.m.ns → (d.E.take j).length = j) := hid (fun j hj => by rw [List.length_take, h.ok.len]; omega)
  have HL0 : Hid (LK W (W.alloc (.cells #[.pointer (some ⟨p.g, 0, none⟩), .pointer (some ⟨p.f.gm, 0, none⟩), .slice none 0 0, .slice none 0 0] 108)) W.heap.size (.slice none 0 0) p d []) := hid ⟨World.ownsRow_nil _ _ _ _, Cel.new W 108 [.pointer (some ⟨p.g, 0, none⟩), .pointer (some ⟨p.f.gm, 0, none⟩), .slice none 0 0, .slice none 0 0], Nat.le_refl _, h, below_one _ _⟩
  have HCm := hid (fun w v (hv : VS w v p d) => countMaps_v w v p d hv hu)
  have HN := hid (And.intro h0 h.ok.n64)
  have HDb := hid h
  clear h hu h0
  simp only [ptr] at *
  go_enter Tryz.func56, Tryz.ntmps56
  go_upto_region 2 with (go_at_call 53; refine HM.out.mono ?_; rintro e wx ⟨rfl, hw⟩; subst wx)
  generalize W.alloc _ = X at *
  generalize hg : W.heap.size = g at HL0 ⊢
  have HG := hid hg
  clear hg
  go_upto_region 3 with (go_at_call 15; refine (HPg.out _ (HL0.out.db.on HL0.out.bl)).mono ?_; rintro e wx ⟨rfl, hw⟩; subst wx)
  go_loopw [14] (fun i wr => ∃ (j : Nat) (v : Value), j ≤ d.m.ns ∧ i = .int .i64 (j : Int) ∧ Hid (LK W wr g v p d (d.E.take j))) (fun i _ => d.m.ns - (intOf i).toNat)
  case atStart => exact ⟨0, _, Nat.zero_le _, rfl, HL0⟩
  case round =>
    obtain ⟨j, v, hj, rfl, HQ⟩ := hrel
    clear HL0
    by_cases hlt : j < d.m.ns
    · have q1 : (j : Int) < (d.m.ns : Int) := by omega
      have hn := HN.out.2
      have q2 : (j : Int) ≤ 64 := by omega
      have HEj := hid (HEn.out · j hlt ·)
      have HSj := hid (HS.out j hlt)
      have HJ := hid hlt
      have HJ1 : Hid ((d.E.take j).length ≤ 1000) := hid (by rw [HLn.out j (by omega)]; omega)
      clear hlt hj hn
      obtain ⟨E2, hE2⟩ : ∃ E2, E2 = d.E.take (j + 1) := ⟨_, rfl⟩
      rw [← hE2] at HSj
      have HE2 := hid hE2
      clear hE2
      generalize hE1 : d.E.take j = EE at *
      clear hE1
      generalize d.at j = X at *
      generalize d.entE (j : Int) = ee at *
      go_upto_region 6 with (first | (go_at_call 49; refine (HEj.out _ (HQ.out.db.on HQ.out.bl)).mono ?_; rintro e w1 ⟨rfl, hb⟩; have L1 := hid (HQ.out.on hb); clear hb HQ) | (refine wpList_store_st rfl 92 _ _ rfl w1.heap.size X.cs rfl rfl (Cel.new w1 92 En.zero.cs) sizeE rfl rfl ?_; intro w2 hc hb hs; have X2 := hid (L1.out.boxput hc hb); clear hc hb hs L1))
      generalize w1.heap.size = g8 at *
      have X5 := hid (X2.out.on (Below.refl _ _).drew)
      clear X2
      obtain ⟨ao8, cc8, rfl⟩ := ownn_form X5.out.l.own
      refine wp_region_held_drew (S := fun w => Cel w g8 92 X.cs) (by kernel_rfl) X5.out.c (fun hHeld => ?_)
      generalize World.drew _ = w5 at *
      refine tk 0 (some 23) (.pointer (some ⟨g, 0, none⟩)) ?_
      simp only [Act.put, tqA, tqZ, tqS]
      refine tk 1 (some 24) (.pointer (some ⟨g, 0, none⟩)) ?_
      simp only [Act.put, tqA, tqZ, tqS]
      refine tk 2 (some 25) (.pointer (some ⟨g, 0, none⟩)) ?_
      simp only [Act.put, tqA, tqZ, tqS]
      refine tk 3 (some 26) (.pointer (some ⟨g, 2, none⟩)) ?_
      simp only [Act.put, tqA, tqZ, tqS]
      refine tk 5 (some 28) (.agg #[.int .i64 X.t, .int .i64 X.o, .int .i64 X.r, .int .i64 X.s, .bool X.e]) ?_ (hy := yieldsIf_load_mid (by rfl) _ _ rfl _ _ rfl _ _ (fun w hSw => hSw.range) underE rfl (by rw [sizeE]; rfl))
      simp only [Act.put, tqA, tqZ, tqS]
      refine wpAnyH_ready (rs := [4, 6]) (by kernel_rfl) (by simp) (AllReadyH.cons (o := ⟨some 27, .load 106 (.tmp 26), 106, "state.go:22", #[⟨3, .data⟩], none⟩) rfl (fun KQ hK => ?_) (AllReadyH.cons (o := ⟨some 29, .buildSlice 106 1 #[(0, .tmp 28)], 106, "state.go:22", #[⟨5, .data⟩], none⟩) rfl (fun KQ hK => ?_) AllReadyH.nil))
      · have y0 := X5.out.l.cel.cell 2
        simp only [List.getElem?_cons_zero, List.getElem?_cons_succ] at y0
        go_simp
        clear y0
        refine hK.out _ _ X5.out.c (fun hHeld => ?_)
        clear hK KQ
        try simp only [Act.put, tqA, tqZ, tqS]
        refine wpAnyH_ready (rs := [6]) (by kernel_rfl) (by simp) (AllReadyH.cons (o := ⟨some 29, .buildSlice 106 1 #[(0, .tmp 28)], 106, "state.go:22", #[⟨5, .data⟩], none⟩) rfl (fun KQ hK => ?_) AllReadyH.nil)
        go_simp
        have X6 : Hid (LKX W (w5.alloc (.cells #[.int .i64 X.t, .int .i64 X.o, .int .i64 X.r, .int .i64 X.s, .bool X.e] 92)) g (.slice ao8 EE.length cc8) p d EE g8 X) := hid (X5.out.on (below_one w5 (.cells X.cs.toArray 92)))
        have HSrc : Hid (Cel (w5.alloc (.cells #[.int .i64 X.t, .int .i64 X.o, .int .i64 X.r, .int .i64 X.s, .bool X.e] 92)) w5.heap.size 92 X.cs) := hid (Cel.new w5 92 X.cs)
        clear X5
        generalize World.alloc _ _ = w6 at *
        generalize w5.heap.size = g9 at *
        refine hK.out _ _ X6.out.c (fun hHeld => ?_)
        clear hK KQ
        try simp only [Act.put, tqA, tqZ, tqS]
        refine wpAnyH_ready (rs := [7]) (by kernel_rfl) (by simp) (AllReadyH.cons (o := ⟨some 30, .call { callee := .builtin .append, args := #[.tmp 27, .tmp 29], argTypes := #[106, 106] }, 106, "state.go:22", #[⟨4, .data⟩, ⟨6, .data⟩], none⟩) rfl (fun KQ hK => ?_) AllReadyH.nil)
        rw [if_pos (by rfl)]
        refine wp_append_n (B := W.heap.size) _ _ rfl (.slice ao8 EE.length cc8) EE rfl X6.out.l.own X6.out.l.bl.size ⟨g9, 0, none⟩ 1 X rfl HSrc.out.src HJ1.out ?_
        intro v7 w7 h7 hgr
        rw [HSj.out] at h7
        obtain ⟨ao9, cc9, rfl⟩ := ownn_form h7
        obtain ⟨hq8, y1, y2⟩ := X6.out.l.snoc h7 hgr
        have HQ8 := hid hq8
        have HC7 := hid (grownn_cel X6.out.c hgr X6.out.ap)
        have HGK : Hid (g8 ≠ g) := hid (fun e => by have h1 := X6.out.l.cel; rw [← e] at h1; exact absurd (h1.ty X6.out.c) (by decide))
        clear hq8 hgr h7 X6 HSrc
        refine hK.out _ _ HC7.out (fun hHeld => ?_)
        clear hK KQ
        try simp only [Act.put, tqA, tqZ, tqS]
        refine tk 8 (some 31) (.pointer (some ⟨g, 0, none⟩)) ?_
        simp only [Act.put, tqA, tqZ, tqS]
        refine tk 9 (some 32) (.pointer (some ⟨g, 2, none⟩)) ?_
        simp only [Act.put, tqA, tqZ, tqS]
        refine wpAnyH_ready (rs := [10]) (by kernel_rfl) (by simp) (AllReadyH.cons (o := ⟨none, .store 106 (.tmp 32) (.tmp 30), 0, "state.go:22", #[⟨9, .data⟩, ⟨7, .data⟩, ⟨7, .chain⟩, ⟨0, .phase⟩, ⟨1, .phase⟩, ⟨2, .phase⟩, ⟨3, .phase⟩, ⟨4, .phase⟩, ⟨5, .phase⟩, ⟨6, .phase⟩, ⟨7, .phase⟩], none⟩) rfl (fun KQ hK => ?_) AllReadyH.nil)
        go_simp
        clear y1 y2
        refine hK.out _ _ (HC7.out.but (ButL.setCell w7 g 2 _ (by simp : g ∈ [g])) (by rw [List.mem_singleton]; exact HGK.out)) (fun hHeld => ?_)
        clear hK KQ
        try simp only [Act.put]
        refine wpAnyH_done (by kernel_rfl) ?_ _
        go_wp2_with fail
        go_roundw
        case measure => have := HJ.out; simp [intOf] <;> omega
        case rel => exact ⟨j + 1, _, HJ.out, by simp, hid (by rw [← HE2.out]; exact HQ8.out)⟩
      · go_simp
        have X6 : Hid (LKX W (w5.alloc (.cells #[.int .i64 X.t, .int .i64 X.o, .int .i64 X.r, .int .i64 X.s, .bool X.e] 92)) g (.slice ao8 EE.length cc8) p d EE g8 X) := hid (X5.out.on (below_one w5 (.cells X.cs.toArray 92)))
        have HSrc : Hid (Cel (w5.alloc (.cells #[.int .i64 X.t, .int .i64 X.o, .int .i64 X.r, .int .i64 X.s, .bool X.e] 92)) w5.heap.size 92 X.cs) := hid (Cel.new w5 92 X.cs)
        clear X5
        generalize World.alloc _ _ = w6 at *
        generalize w5.heap.size = g9 at *
        refine hK.out _ _ X6.out.c (fun hHeld => ?_)
        clear hK KQ
        try simp only [Act.put, tqA, tqZ, tqS]
        refine wpAnyH_ready (rs := [4]) (by kernel_rfl) (by simp) (AllReadyH.cons (o := ⟨some 27, .load 106 (.tmp 26), 106, "state.go:22", #[⟨3, .data⟩], none⟩) rfl (fun KQ hK => ?_) AllReadyH.nil)
        have y0 := X6.out.l.cel.cell 2
        simp only [List.getElem?_cons_zero, List.getElem?_cons_succ] at y0
        go_simp
        clear y0
        refine hK.out _ _ X6.out.c (fun hHeld => ?_)
        clear hK KQ
        try simp only [Act.put, tqA, tqZ, tqS]
        refine wpAnyH_ready (rs := [7]) (by kernel_rfl) (by simp) (AllReadyH.cons (o := ⟨some 30, .call { callee := .builtin .append, args := #[.tmp 27, .tmp 29], argTypes := #[106, 106] }, 106, "state.go:22", #[⟨4, .data⟩, ⟨6, .data⟩], none⟩) rfl (fun KQ hK => ?_) AllReadyH.nil)
        rw [if_pos (by rfl)]
        refine wp_append_n (B := W.heap.size) _ _ rfl (.slice ao8 EE.length cc8) EE rfl X6.out.l.own X6.out.l.bl.size ⟨g9, 0, none⟩ 1 X rfl HSrc.out.src HJ1.out ?_
        intro v7 w7 h7 hgr
        rw [HSj.out] at h7
        obtain ⟨ao9, cc9, rfl⟩ := ownn_form h7
        obtain ⟨hq8, y1, y2⟩ := X6.out.l.snoc h7 hgr
        have HQ8 := hid hq8
        have HC7 := hid (grownn_cel X6.out.c hgr X6.out.ap)
        have HGK : Hid (g8 ≠ g) := hid (fun e => by have h1 := X6.out.l.cel; rw [← e] at h1; exact absurd (h1.ty X6.out.c) (by decide))
        clear hq8 hgr h7 X6 HSrc
        refine hK.out _ _ HC7.out (fun hHeld => ?_)
        clear hK KQ
        try simp only [Act.put, tqA, tqZ, tqS]
        refine tk 8 (some 31) (.pointer (some ⟨g, 0, none⟩)) ?_
        simp only [Act.put, tqA, tqZ, tqS]
        refine tk 9 (some 32) (.pointer (some ⟨g, 2, none⟩)) ?_
        simp only [Act.put, tqA, tqZ, tqS]
        refine wpAnyH_ready (rs := [10]) (by kernel_rfl) (by simp) (AllReadyH.cons (o := ⟨none, .store 106 (.tmp 32) (.tmp 30), 0, "state.go:22", #[⟨9, .data⟩, ⟨7, .data⟩, ⟨7, .chain⟩, ⟨0, .phase⟩, ⟨1, .phase⟩, ⟨2, .phase⟩, ⟨3, .phase⟩, ⟨4, .phase⟩, ⟨5, .phase⟩, ⟨6, .phase⟩, ⟨7, .phase⟩], none⟩) rfl (fun KQ hK => ?_) AllReadyH.nil)
        go_simp
        clear y1 y2
        refine hK.out _ _ (HC7.out.but (ButL.setCell w7 g 2 _ (by simp : g ∈ [g])) (by rw [List.mem_singleton]; exact HGK.out)) (fun hHeld => ?_)
        clear hK KQ
        try simp only [Act.put]
        refine wpAnyH_done (by kernel_rfl) ?_ _
        go_wp2_with fail
        go_roundw
        case measure => have := HJ.out; simp [intOf] <;> omega
        case rel => exact ⟨j + 1, _, HJ.out, by simp, hid (by rw [← HE2.out]; exact HQ8.out)⟩
    · have hjn : j = d.m.ns := by omega
      subst hjn
      clear hlt hj
      rw [HFl.out] at HQ
      obtain ⟨ge, ce, hV, _⟩ := HQ.out.done HN.out.1
      have HV := hid hV
      have HBl := hid (And.intro HQ.out.bl HQ.out.hg)
      clear hV HQ
      go_upto_region 8 with fail
      go_wp2_with (go_at_call 92; refine (HCm.out _ _ HV.out).mono ?_; rintro e w1 ⟨gN, rfl, hc, hgn, hb⟩; have V1 := hid (HV.out.on hb); have C1 := hid (And.intro hc (And.intro hgn (below_on HBl.out.1 hb))); have z3 := V1.out.c3; have z4 := V1.out.cel.free 3; clear hc hgn hb)
      go_ret
      have hbt : ButL [g] w1 (w1.setCell ⟨g, 3, none⟩ (.slice (some ⟨gN, 0, none⟩) d.m.ns d.m.ns)) := .setCell _ _ _ _ (by simp)
      have hne : gN ≠ g := fun e => by
        have h1 := C1.out.1
        rw [e] at h1
        exact absurd (h1.ty V1.out.cel) (by decide)
      obtain ⟨rest, hen⟩ := V1.out.ents
      have hne2 : ge ≠ g := fun e => by
        have h1 := hen
        rw [e] at h1
        exact absurd (h1.ty V1.out.cel) (by decide)
      refine ⟨⟨g, ge, ce, .slice (some ⟨gN, 0, none⟩) d.m.ns d.m.ns⟩, rfl, ⟨V1.out.db.frame hbt (fun k hk hm => ?_), V1.out.cel.setCell 3 _, ⟨rest, hen.but hbt (by rw [List.mem_singleton]; exact hne2)⟩⟩, ⟨gN, ?_, C1.out.1.but hbt (by rw [List.mem_singleton]; exact hne)⟩, C1.out.2.2.trans (hbt.below (B := W.heap.size) (fun k hk => by rw [List.mem_singleton] at hk; rw [hk]; exact HBl.out.2) C1.out.2.2.size)⟩
      · rw [List.mem_singleton] at hm
        have h1 := HDb.out.lt k hk
        have h2 := HBl.out.2
        omega
      · show Value.slice (some ⟨gN, 0, none⟩) d.m.ns d.m.ns = .slice (some ⟨gN, 0, none⟩) (d.mcL d.m.ns).length (d.mcL d.m.ns).length
        rw [show (d.mcL d.m.ns).length = d.m.ns by simp [DS.mcL]]
end Go.Proofs.YtildhjiddidghaaGreatDoor
namespace Go.Proofs.YtildhjiddidghaaGreatDoor
open Go.RowKit
set_option maxHeartbeats 8000000
set_option maxRecDepth 100000
def DS.at12 (d : DS) (c q : Nat) : Bool := d.cl (d.mcL d.m.ns) (c - 1) q
def DS.bad (d : DS) (c : Nat) : Option Nat := (List.range d.m.ns).find? (fun q => !(d.at12 c q))
def DS.fb (d : DS) : Nat → Nat → Int × Int
  | _, 0 => (0, 0)
  | c, n + 1 => match d.bad c with
    | some q => ((c : Int), (q : Int))
    | none => d.fb (c + 1) n
theorem bad_some {d : DS} {c q : Nat} (hq : q < d.m.ns) (h : d.at12 c q = false) (ha : ∀ j, j < q → d.at12 c j = true) : d.bad c = some q := by
  unfold DS.bad
  rw [List.find?_range_eq_some]
  exact ⟨by rw [h]; rfl, List.mem_range.2 hq, fun j hj => by rw [ha j hj]; rfl⟩
theorem bad_none {d : DS} {c : Nat} (ha : ∀ j, j < d.m.ns → d.at12 c j = true) : d.bad c = none := by
  unfold DS.bad
  rw [List.find?_eq_none]
  intro j hj
  rw [ha j (List.mem_range.1 hj)]
  decide
theorem fs_all {fs : List Value} (hf : ∀ u ∈ fs, ∃ a b c, u = Value.func a b c) : fs.all (·.oneCell') = true := by
  rw [List.all_eq_true]
  intro u hu
  obtain ⟨a, b, c, rfl⟩ := hf u hu
  rfl
theorem tells_on {w w' : World} {n : Nat} {fs : List Value} {F : Nat → Nat → Bool} (h : ∃ r, ∀ i, i < 12 → Tells r w (fs.getD i undef) n (F i)) (hb : Below w.heap.size w w') : ∃ r, ∀ i, i < 12 → Tells r w' (fs.getD i undef) n (F i) := by
  obtain ⟨r, hT⟩ := h
  exact ⟨r, fun i hi => (hT i hi).on hb⟩
theorem tells_call {w : World} {n : Nat} {fs : List Value} {F : Nat → Nat → Bool} (h : ∃ r, ∀ i, i < 12 → Tells r w (fs.getD i undef) n (F i)) (i : Nat) (hi : i < 12) : ∃ fn bs gs, fs.getD i undef = .func (.func fn) bs gs ∧ (∀ args w, (callFunc fn args).run Tryz.prog w = .ok (.enter fn args) w) ∧ ∀ w', Below w.heap.size w w' → ∀ k, k < n → Calls Tryz.prog fn (bs.push (.int .i64 (k : Int)) ++ gs) w' fun e w'' => e = .returned (.bool (F i k)) ∧ Below w'.heap.size w' w'' := by
  obtain ⟨r, hT⟩ := h
  obtain ⟨fn, bs, gs, e, he, hc⟩ := hT i hi
  exact ⟨fn, bs, gs, e, he, fun w' hb => hc w' (.of hb)⟩
theorem firstBroken_v (W : World) (p : Dp) (d : DS) (h : DB W p d) (hu : d.m.U) (h0 : 0 < d.m.ns) (lo n : Nat) (h1 : 1 ≤ lo) (h2 : lo + n ≤ 13) (hn1 : 1 ≤ n) :
    Calls Tryz.prog 21 #[.pointer (some ⟨p.g, 0, none⟩), .int .i64 (lo : Int), .int .i64 ((lo + n - 1 : Nat) : Int)] W fun e w' => e = .returned (.tuple #[.int .i64 (d.fb lo n).1, .int .i64 (d.fb lo n).2]) ∧ Below W.heap.size W w' := by
  have HLk := hid (look_v W p d h hu h0)
  have HCl := hid (fun w v (hv : VS w v p d) (hm : MPd w v.M (d.mcL d.m.ns)) => clauses_v w v p d hv hu (d.mcL d.m.ns) hm (by simp [DS.mcL]))
  have HN := hid (And.intro h0 h.ok.n64)
  have H12 := hid (And.intro h1 (And.intro h2 hn1))
  obtain ⟨R, hR⟩ : ∃ R, R = d.fb lo n := ⟨_, rfl⟩
  rw [← hR]
  have HR := hid hR
  clear h hu h0 hR h1 h2 hn1
  generalize hhi : ((lo + n - 1 : Nat) : Int) = hi
  have HH := hid hhi
  clear hhi
  go_enter Tryz.func21, Tryz.ntmps21
  go_upto_region 1 with fail
  refine wp_scope_straight ?_
  go_upto_region 2 with (go_at_call 56; refine HLk.out.mono ?_; rintro e w1 ⟨v, rfl, hv, hm, hb⟩; have V1 := hid (And.intro hv (And.intro hm hb)); clear hv hm hb)
  go_upto_region 3 with (first | (go_at_call 57; refine (HCl.out _ _ V1.out.1 V1.out.2.1).mono ?_; rintro e w2 ⟨fs, rfl, hl, hT, hf, hb⟩; have V2 := hid (And.intro (V1.out.1.on hb) (And.intro hl (And.intro hT (And.intro hf (below_on V1.out.2.2 hb))))); clear hl hT hf hb) | (refine wpList_store_st rfl 104 _ _ rfl w2.heap.size fs rfl rfl (Cel.new w2 104 [.nilFunc, .nilFunc, .nilFunc, .nilFunc, .nilFunc, .nilFunc, .nilFunc, .nilFunc, .nilFunc, .nilFunc, .nilFunc, .nilFunc]) (by rw [size104, V2.out.2.1]) (by rw [V2.out.2.1]; rfl) (fs_all V2.out.2.2.2.1) ?_; intro w3 hc hb hs; have hbb := (below_one w2 (.cells #[.nilFunc, .nilFunc, .nilFunc, .nilFunc, .nilFunc, .nilFunc, .nilFunc, .nilFunc, .nilFunc, .nilFunc, .nilFunc, .nilFunc] 104)).trans (hb.below (B := w2.heap.size) (by simp) (by simp)); have V3 := hid (And.intro (V2.out.1.on hbb) (And.intro hc (below_on V2.out.2.2.2.2 hbb))); have T3 := hid (tells_on V2.out.2.2.1 hbb); have FL := hid V2.out.2.1; clear hc hb hs hbb V2))
  generalize w2.heap.size = g9 at *
  have HH2 : Hid (∀ c : Nat, (((c : Int) ≤ hi) ↔ c < lo + n)) := hid (fun c => by have := HH.out; have := H12.out; omega)
  refine wp_label ?_
  refine ‹∀ (a : Act) (w : World), Code.wp Tryz.prog _ _ a w → _› _ _ ?_
  go_upto_region 4 with fail
  go_loopw [6, 7, 10] (fun a b i wr => ∃ c : Nat, lo ≤ c ∧ c ≤ lo + n ∧ a = .int .i64 0 ∧ b = .int .i64 0 ∧ i = .int .i64 (c : Int) ∧ Hid (Below w3.heap.size w3 wr ∧ R = d.fb c (lo + n - c))) (fun _ _ i _ => lo + n - (intOf i).toNat)
  case atStart => exact ⟨lo, Nat.le_refl _, by omega, rfl, rfl, rfl, hid ⟨Below.refl _ _, by rw [show lo + n - lo = n by omega]; exact HR.out⟩⟩
  case round =>
    obtain ⟨c, hc0, hc1, rfl, rfl, rfl, HQ⟩ := hrel
    have HVc := hid (V3.out.1.on HQ.out.1)
    have x2 := HVc.out.c2
    by_cases hlt : c < lo + n
    · have q1 : (c : Int) ≤ hi := (HH2.out c).2 hlt
      have hh := H12.out
      have q2 : (c : Int) ≤ 12 := by omega
      have HC := hid (And.intro hc0 hlt)
      obtain ⟨m, hm, hm12⟩ : ∃ m, c - 1 = m ∧ m < 12 := ⟨c - 1, rfl, by omega⟩
      have kw : IntKind.wrap .i64 ((c : Int) - 1) = (m : Int) := by rw [wr64 _ (by omega) (by omega)]; omega
      have qm : (m : Int) < 12 := by omega
      have HAt : Hid (∀ q, d.at12 c q = d.cl (d.mcL d.m.ns) m q) := hid (fun q => by unfold DS.at12; rw [hm])
      have HFb : Hid (d.fb c (lo + n - c) = match d.bad c with | some q => ((c : Int), (q : Int)) | none => d.fb (c + 1) (lo + n - (c + 1))) := hid (by
        obtain ⟨k, hk⟩ : ∃ k, lo + n - c = k + 1 := ⟨lo + n - c - 1, by omega⟩
        rw [hk, show lo + n - (c + 1) = k by omega]
        rfl)
      clear hlt hc0 hc1 hh hm
      go_upto_region 7 with fail
      clear x2
      go_loopw [6, 7, 27] (fun a b i wr => ∃ j : Nat, j ≤ d.m.ns ∧ a = .int .i64 0 ∧ b = .int .i64 0 ∧ i = .int .i64 (j : Int) ∧ Hid (Below w3.heap.size w3 wr ∧ ∀ q, q < j → d.at12 c q = true)) (fun _ _ i _ => d.m.ns - (intOf i).toNat)
      case atStart => exact ⟨0, Nat.zero_le _, rfl, rfl, rfl, hid ⟨HQ.out.1, by intro q hq; omega⟩⟩
      case round =>
        obtain ⟨j, hj, rfl, rfl, rfl, HK⟩ := hrel
        by_cases hlt : j < d.m.ns
        · have q3 : (j : Int) < (d.m.ns : Int) := by omega
          have hn := HN.out.2
          have q4 : (j : Int) ≤ 64 := by omega
          obtain ⟨fn, bs, gs, hfe, hen, hcall⟩ := tells_call T3.out m hm12
          have z0 : wr.cell? ⟨g9, m, none⟩ = some (.func (.func fn) bs gs) := by
            rw [(V3.out.2.1.on HK.out.1).cell, ← hfe, List.getD_eq_getElem?_getD, List.getElem?_eq_getElem (by rw [FL.out]; exact hm12)]
            rfl
          have HCa := hid (hcall _ HK.out.1 j hlt)
          rw [← HAt.out j] at HCa
          have HJ := hid hlt
          clear hlt hj hn hfe hcall
          cases hy : d.at12 c j
          · rw [hy] at HCa
            have HBd := hid (bad_some HJ.out hy HK.out.2)
            clear hy
            go_wp2_with fail
            refine HCa.out.mono ?_
            rintro e w4 ⟨rfl, hb⟩
            have B4 := hid (below_on V3.out.2.2 (below_on HK.out.1 hb))
            clear hb
            go_wp2_with fail
            simp only [Exit.noGoto]
            go_wp2_with fail
            go_ret2
            rw [HQ.out.2, HFb.out, HBd.out]
            exact ⟨rfl, B4.out⟩
          · rw [hy] at HCa
            have HY := hid hy
            clear hy
            go_wp2_with fail
            refine HCa.out.mono ?_
            rintro e w4 ⟨rfl, hb⟩
            have B4 := hid (below_on HK.out.1 hb)
            clear hb
            go_wp2_with fail
            go_roundw
            case measure => have := HJ.out; simp [intOf] <;> omega
            case rel => exact ⟨j + 1, HJ.out, rfl, rfl, by simp, hid ⟨B4.out, fun q hq => by
              by_cases e : q = j
              · rw [e]; exact HY.out
              · exact HK.out.2 q (by omega)⟩⟩
        · have hjn : j = d.m.ns := by omega
          subst hjn
          have HBd := hid (bad_none HK.out.2)
          clear hlt hj
          go_wp2_with fail
          go_roundw
          case measure => have := HC.out; simp [intOf] <;> omega
          case rel => exact ⟨c + 1, by have := HC.out; omega, by have := HC.out; omega, rfl, rfl, by simp, hid ⟨HK.out.1, by rw [HQ.out.2, HFb.out, HBd.out]⟩⟩
    · have hcn : c = lo + n := by omega
      have q1 : ¬ ((c : Int) ≤ hi) := fun h => hlt ((HH2.out c).1 h)
      have HR2 : Hid (R = (0, 0)) := hid (by rw [HQ.out.2, hcn, Nat.sub_self]; rfl)
      clear hlt hc0 hc1 hcn
      go_wp2_with fail
      go_ret2
      rw [HR2.out]
      exact ⟨rfl, below_on V3.out.2.2 HQ.out.1⟩
end Go.Proofs.YtildhjiddidghaaGreatDoor
