/- A program that is being read: frames; hasRoom (89). -/
import Derived.Test.YtncnogndopgknaaGreatDoorAs7
import Derived.Test.YtncnogndopgknaaGreatDoorKeep
namespace Go.Proofs.YtncnogndopgknaaGreatDoor
open Go.RowKit
/-- Blocks of that type stay. -/
def KT (e : TypeId) (w w' : World) : Prop := ∀ (j : Nat) (cs : Array Value) (fr : Nat × Nat), w.heap[j]? = some (Obj.cells cs e fr) → w'.heap[j]? = some (Obj.cells cs e fr)
theorem KT.of_below {e : TypeId} {w w' : World} (h : Below w.heap.size w w') : KT e w w' := fun j cs fr hj => by rw [h.block j (Array.getElem?_eq_some_iff.1 hj).1]; exact hj
theorem KT.trans {e : TypeId} {a b c : World} (h : KT e a b) (k : KT e b c) : KT e a c := fun j cs fr hj => k j cs fr (h j cs fr hj)
theorem KT.setCell {e t : TypeId} {w : World} {g : Nat} {cs : List Value} (h : Cel w g t cs) (hne : e ≠ t) (j : Nat) (v : Value) : KT e w (w.setCell ⟨g, j, none⟩ v) := fun i ds fr hi => by
  rw [heap_setCell_other w ⟨g, j, none⟩ i v (fun hh => by
    have hh' : i = g := hh
    subst hh'
    unfold Cel at h
    rw [h] at hi
    injection hi with hi
    injection hi with h1 h2 h3
    exact hne h2.symm)]
  exact hi
theorem KT.grown {e t : TypeId} {w w' : World} {B z n : Nat} {v : Value} {xs : List Value} (hown : w.ownsRow B t z v n xs) (h2 : w.grownBy w' v.ownBlock) (hne : e ≠ t) : KT e w w' := fun _ _ _ hi => keep_block hown h2 hi hne
theorem KT.turned {e : TypeId} {w w' : World} {b : Nat} (h : w.mapTurned w' b) : KT e w w' := fun i ds fr hi => by
  obtain ⟨es, clock, es', clock', h1, rfl⟩ := h
  have hne : i ≠ b := fun hh => by subst hh; rw [h1] at hi; cases hi
  show (w.heap.setIfInBounds b _)[i]? = _
  rw [Array.getElem?_setIfInBounds_ne (Ne.symm hne)]
  exact hi
theorem own_kt {w w' : World} {B n : Nat} {e : TypeId} {z : Nat} {v : Value} {xs : List Value} (h : w.ownsRow B e z v n xs) (k : KT e w w') : w'.ownsRow B e z v n xs :=
  ⟨h.1, h.2.imp id fun ⟨g, cap, cur, hv, hB, hg, r⟩ => ⟨g, cap, cur, hv, hB, k _ _ _ hg, r⟩⟩
theorem Cel.kt {w w' : World} {g : Nat} {t : TypeId} {cs : List Value} (h : Cel w g t cs) (k : KT t w w') : Cel w' g t cs := k _ _ _ h
/-- A map's block stays where a block of cells is turned, or rows grow. -/
theorem map_setCell {w : World} {g gm : Nat} {t : TypeId} {cs : List Value} {labs : List (List UInt8 × Nat)} (hm : MapIs w gm labs) (h : Cel w g t cs) (j : Nat) (v : Value) : MapIs (w.setCell ⟨g, j, none⟩ v) gm labs :=
  hm.block (heap_setCell_other w ⟨g, j, none⟩ gm v (fun hh => by
    have hh' : gm = g := hh
    subst hh'
    obtain ⟨es, clock, h1⟩ := hm.isMap
    unfold Cel at h
    rw [h] at h1
    cases h1))
theorem map_grown {w w' : World} {gm B z n : Nat} {t : TypeId} {v : Value} {xs : List Value} {labs : List (List UInt8 × Nat)} (hm : MapIs w gm labs) (hown : w.ownsRow B t z v n xs) (h2 : w.grownBy w' v.ownBlock) : MapIs w' gm labs :=
  hm.block (h2.block gm hm.lt (fun hh => by
    obtain ⟨es, clock, h1⟩ := hm.isMap
    rcases hown.2 with ⟨rfl, _⟩ | ⟨g', cap, cur', rfl, _, hg', _⟩
    · cases hh
    · simp only [Value.ownBlock, Option.some.injEq] at hh
      subst hh
      rw [hg'] at h1
      cases h1))
theorem map_on {w w' : World} {gm : Nat} {labs : List (List UInt8 × Nat)} (hm : MapIs w gm labs) (h : Below w.heap.size w w') : MapIs w' gm labs := hm.block (h.block gm hm.lt)
/-- What a closure holds. -/
structure Fc where
  g7 : Nat
  g8 : Nat
  g5 : Nat
  g11 : Nat
  g6 : Nat
  g9 : Nat
  gO : Nat
  cap : Nat
def fcV (d : Fc) : Value := .func (.func 123) #[] #[.pointer (some ⟨d.g7, 0, none⟩), .pointer (some ⟨d.g8, 0, none⟩), .pointer (some ⟨d.g5, 0, none⟩), .pointer (some ⟨d.g11, 0, none⟩), .pointer (some ⟨d.g6, 0, none⟩), .pointer (some ⟨d.g9, 0, none⟩)]
structure ClosAt (w : World) (g : Nat) (d : Fc) (t : S.Lt) : Prop where
  c7 : Cel w d.g7 192 [.slice (some ⟨d.gO, 0, none⟩) t.ops.length d.cap]
  c8 : Cel w d.g8 3 [.int .i64 (t.at' : Int)]
  c5 : Cel w d.g5 68 [.pointer (some ⟨g, 0, none⟩)]
  c11 : Cel w d.g11 3 [.int .i64 (t.line : Int)]
  c6 : Cel w d.g6 188 (kdC t.k)
  c9 : Cel w d.g9 3 [.int .i64 (t.place : Int)]
  row : ∃ cur, w.heap[d.gO]? = some (.cells cur 197 (0, 0)) ∧ cur.toList.take (t.ops.length * 3) = opsC t.ops
  at' : t.at' < t.ops.length
  k : S.KOk t.k
  os : S.OsOk t.k t.ops
  place : t.place ≤ 2048
theorem ClosAt.kt {w w' : World} {g : Nat} {d : Fc} {t : S.Lt} (h : ClosAt w g d t) (k192 : KT 192 w w') (k3 : KT 3 w w') (k68 : KT 68 w w') (k188 : KT 188 w w') (k197 : KT 197 w w') : ClosAt w' g d t :=
  ⟨h.c7.kt k192, h.c8.kt k3, h.c5.kt k68, h.c11.kt k3, h.c6.kt k188, h.c9.kt k3, (let ⟨cur, a, b⟩ := h.row; ⟨cur, k197 _ _ _ a, b⟩), h.at', h.k, h.os, h.place⟩
def labC (x : List UInt8 × Nat) : List Value := [.string ⟨x.1.toArray⟩, .int .i64 (x.2 : Int)]
def labsC (l : List (List UInt8 × Nat)) : List Value := (l.map labC).flatten
def psC (base line : Nat) (vw vl : Value) (gm : Nat) (vf : Value) : List Value := [.int .u32 (base : Int), .int .i64 (line : Int), vw, vl, .map (some gm), vf]
/-- A program that is being read: in block g, its map in gm. -/
structure PS (W w : World) (g gm base line : Nat) (st : S.St) (fs : List Fc) (vw vl vf : Value) : Prop where
  below : Below W.heap.size W w
  hg : W.heap.size ≤ g
  hm : W.heap.size ≤ gm
  cel : Cel w g 77 (psC base line vw vl gm vf)
  ws : w.ownsRow W.heap.size 22 1 vw st.ws.length (u32s st.ws)
  lb : w.ownsRow W.heap.size 43 2 vl st.labs.length (labsC st.labs)
  lt : w.ownsRow W.heap.size 111 1 vf st.lat.length (fs.map fcV)
  map : MapIs w gm st.labs
  len : fs.length = st.lat.length
  clos : ∀ i (h : i < st.lat.length) (h' : i < fs.length), ClosAt w g fs[i] st.lat[i]
  nodup : (fs.map (·.gO)).Nodup
  rows : ∀ d ∈ fs, W.heap.size ≤ d.gO
  room : st.ws.length ≤ 2048
  places : ∀ x ∈ st.labs, x.2 ≤ 2048
theorem PS.on {W w w' : World} {g gm base line : Nat} {st : S.St} {fs : List Fc} {vw vl vf : Value} (h : PS W w g gm base line st fs vw vl vf) (hb : Below w.heap.size w w') : PS W w' g gm base line st fs vw vl vf :=
  ⟨below_on h.below hb, h.hg, h.hm, h.cel.on hb, own_below h.ws hb, own_below h.lb hb, own_below h.lt hb, map_on h.map hb, h.len, fun i a b => (h.clos i a b).kt (.of_below hb) (.of_below hb) (.of_below hb) (.of_below hb) (.of_below hb), h.nodup, h.rows, h.room, h.places⟩
theorem PS.vw {W w : World} {g gm base line : Nat} {st : S.St} {fs : List Fc} {vw vl vf : Value} (h : PS W w g gm base line st fs vw vl vf) : ∃ ao c, vw = .slice ao st.ws.length c := own_form h.ws
/-- The line is set. -/
theorem PS.setLine {W w : World} {g gm base line : Nat} {st : S.St} {fs : List Fc} {vw vl vf : Value} (h : PS W w g gm base line st fs vw vl vf) (n : Nat) : PS W (w.setCell ⟨g, 1, none⟩ (.int .i64 (n : Int))) g gm base n st fs vw vl vf :=
  ⟨h.below.setCell (p := ⟨g, 1, none⟩) h.hg _, h.hg, h.hm, h.cel.setCell 1 _, own_kt h.ws (.setCell h.cel (by decide) 1 _), own_kt h.lb (.setCell h.cel (by decide) 1 _), own_kt h.lt (.setCell h.cel (by decide) 1 _), map_setCell h.map h.cel 1 _, h.len,
   fun i a b => (h.clos i a b).kt (.setCell h.cel (by decide) 1 _) (.setCell h.cel (by decide) 1 _) (.setCell h.cel (by decide) 1 _) (.setCell h.cel (by decide) 1 _) (.setCell h.cel (by decide) 1 _), h.nodup, h.rows, h.room, h.places⟩
theorem hasRoom_any (w : World) (g : Nat) (ao : Option Addr) (n c k : Nat) (hn : n ≤ 2048) (hk : k ≤ 100000) (hc : w.cell? ⟨g, 2, none⟩ = some (.slice ao n c)) :
    Calls Tryz.prog 89 #[.pointer (some ⟨g, 0, none⟩), .int .i64 (k : Int)] w fun x w' => x = .returned (.bool (decide (n + k ≤ 2048))) ∧ w = w' := by
  have n1 : (n : Int) ≤ 2048 := by omega
  have k1 : (k : Int) ≤ 100000 := by omega
  have HR : Hid (decide ((n : Int) + (k : Int) ≤ 2048) = decide (n + k ≤ 2048)) := hid (by rw [Bool.eq_iff_iff]; simp; omega)
  clear hn hk
  go_enter Tryz.func89, Tryz.ntmps89
  go_wp2_with fail
  go_ret
  exact ⟨ret_bool HR.out, rfl⟩
theorem wp_mapUpdate {P : Program} {op : Oper} {a : Act} {w w' : World} {K : Act → World → Prop} {Q : Exit → Act → World → Prop} (t : TypeId) (m x y : Operand) (ho : op.op = .mapUpdate t m x y) (vm vx vy : Value) (hm : a.eval m = vm) (hx : a.eval x = vx) (hy : a.eval y = vy)
    (hr : (Instr.mapUpdate t vm vx vy).run P w = .ok () w') (h : K (a.put op.dst undef) w') : op.wp P a w K Q := by
  unfold Oper.wp execOp
  simp only [ho, hm, hx, hy, Sem.run_bind, Sem.run_pure, hr, Result.andThen_ok]
  exact h
end Go.Proofs.YtncnogndopgknaaGreatDoor
