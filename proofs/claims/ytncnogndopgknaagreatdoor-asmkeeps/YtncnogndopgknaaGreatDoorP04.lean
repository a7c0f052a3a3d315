import Derived.Test.YtncnogndopgknaaGreatDoorP03
import Derived.WalkSmall
namespace Go.Proofs.YtncnogndopgknaaGreatDoor
open Go.RowKit

def letter (l : Nat) : Prop := l = 97 ∨ l = 98 ∨ l = 99 ∨ l = 107 ∨ l = 117 ∨ l = 115 ∨ l = 111
structure Fl where
  low : Int
  bits : Int
  least : Int
  most : Int
def Fl.v (f : Fl) : Value := .agg #[.int .i64 f.low, .int .i64 f.bits, .int .i64 f.least, .int .i64 f.most]
def fl (l : Nat) : Fl := if l = 97 then ⟨22, 4, 0, 14⟩ else if l = 98 then ⟨18, 4, 0, 14⟩ else if l = 99 then ⟨14, 4, 0, 14⟩ else if l = 107 then ⟨22, 3, 0, 6⟩ else if l = 117 then ⟨0, 16, 0, 65535⟩ else ⟨0, 16, -32768, 32767⟩

theorem ret_st {P : Program} {fn : Func} {p : Tmp} {ty e : TypeId} {fr : Nat × Nat} {d : TypeDesc} {a : Act} {w : World} {post : Ending → World → Prop} (hr : fn.results = #[.cell p ty]) (hd : a.defers = []) (g : Nat) (cs : Array Value)
    (hp : a.tmps.getD p undef = .pointer (some ⟨g, 0, none⟩)) (hg : w.heap[g]? = some (.cells cs e fr)) (hu : P.underlying ty = some d) (hdd : (match d with | .struct _ | .array _ _ => true | _ => false) = true) (hi : (P.info? ty).map (·.size) = some cs.size) (h : post (.returned (.agg cs)) w) :
    bodyPost P fn post .ret a w := bodyPost_ret (results_cell_row hr _ _ g e _ fr _ hp hg hu hdd hi) hd h
theorem new_at (W : World) (o : Obj) : (W.alloc o).heap[W.heap.size]? = some o := by show (W.heap.push o)[W.heap.size]? = some o; simp
theorem below_one (W : World) (o : Obj) : Below W.heap.size W (W.alloc o) := Below.alloc (Below.refl _ _) (Nat.le_refl _) _
theorem new_at2 (W : World) (o p : Obj) : ((W.alloc o).alloc p).heap[W.heap.size + 1]? = some p := by have := new_at (W.alloc o) p; rwa [show (W.alloc o).heap.size = W.heap.size + 1 by show (W.heap.push o).size = _; simp] at this
theorem below_two (W : World) (o p : Obj) : Below W.heap.size W ((W.alloc o).alloc p) := Below.alloc (below_one W o) (by show _ ≤ (W.heap.push o).size; simp) _
theorem size66 : (Tryz.prog.info? 125).map (·.size) = some 4 := by kernel_rfl
theorem size27 : (Tryz.prog.info? 84).map (·.size) = some 6 := by kernel_rfl
theorem fieldOf_any (l : Nat) (h : letter l) (L : Int) (hL : L = (l : Int)) (W : World) :
    Calls Tryz.prog 44 #[.int .u8 L] W fun e W' => e = .returned (fl l).v ∧ Below W.heap.size W W' := by
  subst hL
  rcases h with rfl | rfl | rfl | rfl | rfl | rfl | rfl
  all_goals
    go_enter Tryz.func44, Tryz.ntmps44
    go_wp2
    exact ret_st (ty := 125) rfl rfl W.heap.size _ rfl (new_at _ _) Tryz.underlying125 rfl size66 ⟨rfl, below_one _ _⟩

structure Ins where
  op : Int
  cond : Int
  a : Int
  b : Int
  c : Int
  imm : Int
deriving DecidableEq
def Ins.v (i : Ins) : Value := .agg #[.int .i64 i.op, .int .i64 i.cond, .int .i64 i.a, .int .i64 i.b, .int .i64 i.c, .int .i32 i.imm]
def Ins.num (i : Ins) (l : Nat) : Int := if l = 97 then i.a else if l = 98 then i.b else if l = 99 then i.c else if l = 107 then i.cond else i.imm
def Ins.put (i : Ins) (l : Nat) (v : Int) : Ins := if l = 97 then { i with a := v } else if l = 98 then { i with b := v } else if l = 99 then { i with c := v } else if l = 107 then { i with cond := v } else { i with imm := v }

theorem inum_any (i : Ins) (h0 : -2147483648 ≤ i.imm) (h1 : i.imm < 2147483648) (l : Nat) (h : letter l) (L : Int) (hL : L = (l : Int)) (W : World) :
    Calls Tryz.prog 45 #[i.v, .int .u8 L] W fun e W' => e = .returned (.int .i64 (i.num l)) ∧ Below W.heap.size W W' := by
  subst hL
  obtain ⟨op, cond, a, b, c, imm⟩ := i
  simp only [Ins.v] at *
  rcases h with rfl | rfl | rfl | rfl | rfl | rfl | rfl
  all_goals
    go_enter Tryz.func45, Tryz.ntmps45
    go_wp2
    go_ret
    exact ⟨rfl, Below.alloc (Below.refl _ _) (Nat.le_refl _) _⟩

theorem with_any (i : Ins) (l : Nat) (h : letter l) (L : Int) (hL : L = (l : Int)) (v : Int) (h0 : -2147483648 ≤ v) (h1 : v < 2147483648) (W : World) :
    Calls Tryz.prog 48 #[i.v, .int .u8 L, .int .i64 v] W fun e W' => e = .returned (i.put l v).v ∧ Below W.heap.size W W' := by
  subst hL
  obtain ⟨op, cond, a, b, c, imm⟩ := i
  simp only [Ins.v] at *
  rcases h with rfl | rfl | rfl | rfl | rfl | rfl | rfl
  all_goals
    go_enter Tryz.func48, Tryz.ntmps48
    go_wp2
    exact ret_st (ty := 84) rfl rfl (W.heap.size + 1) _ rfl (new_at2 _ _ _) Tryz.underlying84 rfl size27 ⟨rfl, below_two _ _ _⟩

def rd (w : Int) (l : Nat) : Int := if (fl l).least < 0 then M.Ext (M.Fld w (fl l).low.toNat (fl l).bits.toNat) (fl l).bits.toNat else M.Fld w (fl l).low.toNat (fl l).bits.toNat
theorem w64 (x : Int) (h : -2147483648 ≤ x ∧ x < 4294967296) : wrap64 x = x := by unfold wrap64; omega
theorem fld_w (w : Int) (a n : Nat) (h : n ≤ 32) : wrap64 (M.Fld w a n) = M.Fld w a n := by have := M.fld_bounds w a n h; exact w64 _ (by omega)
theorem ext_w (w : Int) (n : Nat) (h1 : 1 ≤ n) (h : n ≤ 32) : wrap64 (M.Ext w n) = M.Ext w n := by have := (M.ext_eq w n h1 h).2; exact w64 _ (by omega)
theorem iread_any (W : World) (hT : Tab W) (hW : 5 < W.heap.size) (w : Int) (w0 : 0 ≤ w) (w1 : w < 4294967296) (l : Nat) (h : letter l) :
    Calls Tryz.prog 49 #[(fl l).v, .int .u32 w] W fun e W' => e = .returned (.int .i64 (rd w l)) ∧ Below W.heap.size W W' := by
  have HF := fun (W' : World) (hb : Below W.heap.size W W') lo n => field_yes W' (hT.below hb hW) w lo n w0 w1
  have HX := fun (W' : World) (hb : Below W.heap.size W W') v n => extend_yes W' (hT.below hb hW) v n
  clear hT hW
  have HF' : Hid _ := HF
  have HX' : Hid _ := HX
  clear HF HX
  rcases h with rfl | rfl | rfl | rfl | rfl | rfl | rfl
  all_goals
    simp only [Fl.v, fl]
    go_enter Tryz.func49, Tryz.ntmps49
    go_wp2_with (first | (go_at_call 46; refine (HF'.out _ (below_one _ _) _ _ (by decide) (by decide) (by decide)).mono ?_; rintro e w' ⟨rfl, k, rfl⟩) | (go_at_call 72; refine (HX'.out _ (below_drewN (below_one _ _) _) _ _ (M.fld_bounds _ _ _ (by decide)).1 (M.fld_bounds _ _ _ (by decide)).2.2 (by decide) (by decide)).mono ?_; rintro e w' ⟨rfl, k', rfl⟩))
    go_ret
    refine ⟨ret_int ?_, by repeat (first | exact below_one _ _ | apply below_drewN)⟩
    first | exact (fld_w w _ _ (by decide)).trans (by simp [rd, fl]) | exact (ext_w _ _ (by decide) (by decide)).trans (by simp [rd, fl])
theorem isOp_any (W : World) (op : Int) : Calls Tryz.prog 69 #[.int .i64 op] W fun e W' => e = .returned (.bool (decide (1 ≤ op ∧ op < 25))) ∧ W = W' := by
  by_cases h : 1 ≤ op
  · go_enter Tryz.func69, Tryz.ntmps69
    go_wp2
    go_ret
    exact ⟨ret_bool (Bool.eq_iff_iff.2 (by first | (simp only [decide_eq_true_eq]; omega) | (simp; omega))), rfl⟩
  · have h' : op < 1 := by omega
    go_enter Tryz.func69, Tryz.ntmps69
    go_wp2
    go_ret
    exact ⟨ret_bool (Bool.eq_iff_iff.2 (by first | (simp only [decide_eq_true_eq]; omega) | (simp; omega))), rfl⟩
end Go.Proofs.YtncnogndopgknaaGreatDoor
