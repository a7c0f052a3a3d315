import Derived.Test.YtncnogndopgknaaGreatDoorP29
namespace Go.Proofs.YtncnogndopgknaaGreatDoor
open Go.RowKit
theorem sizeFault : (Tryz.prog.info? 27).map (·.size) = some 3 := by kernel_rfl
theorem below_setRow6 {B g : Nat} {w0 w : World} (hb : Below B w0 w) (hBg : B ≤ g) (cs : Array Value) : Below B w0 (w.setRow g cs) :=
  hb.trans ⟨rfl, rfl, rfl, by simp [World.setRow], fun k hk => setRow_other w g k cs (by omega)⟩
theorem as_hit2 (e l c : Int) (g : Nat) (cs : List Value) (h3 : cs.length = 3) (w : World) (hg0 : ErrT w) (ht0 : Cel w g 113 cs) :
    Calls Tryz.prog 40 #[bk e l c, .iface 115 (.pointer (some ⟨g, 0, none⟩))] w fun ev w' => ev = .returned (.bool true) ∧ Cel w' g 113 [.int .i64 e, .int .i64 l, .int .i64 c] ∧ (∀ t, t ≠ 113 → KT t w w') ∧ Below g w w' := by
  refine (as_hit e l c g cs h3 w hg0 ht0).mono ?_
  rintro x w' ⟨rfl, rfl⟩
  have hlt := ht0.lt
  have hcg := ((((ht0.on (below_one _ (Obj.cells #[.pointer (some ⟨g, 0, none⟩)] 115))).on (below_one _ (Obj.cells #[.pointer (some ⟨13, 115, none⟩), .pointer (some ⟨w.heap.size, 0, none⟩), .int .u64 150] 160))).on (below_one _ (Obj.cells #[.pointer (some ⟨13, 115, none⟩), .pointer (some ⟨w.heap.size, 0, none⟩), .int .u64 150] 160))).on (below_one _ (Obj.cells #[.int .i64 e, .int .i64 l, .int .i64 c] 113)))
  have hb4 : Below w.heap.size w ((((w.alloc (.cells #[.pointer (some ⟨g, 0, none⟩)] 115)).alloc (.cells #[.pointer (some ⟨13, 115, none⟩), .pointer (some ⟨w.heap.size, 0, none⟩), .int .u64 150] 160)).alloc (.cells #[.pointer (some ⟨13, 115, none⟩), .pointer (some ⟨w.heap.size, 0, none⟩), .int .u64 150] 160)).alloc (.cells #[.int .i64 e, .int .i64 l, .int .i64 c] 113)) := below_on (below_on (below_on (below_one _ _) (below_one _ _)) (below_one _ _)) (below_one _ _)
  generalize (((w.alloc (.cells #[.pointer (some ⟨g, 0, none⟩)] 115)).alloc (.cells #[.pointer (some ⟨13, 115, none⟩), .pointer (some ⟨w.heap.size, 0, none⟩), .int .u64 150] 160)).alloc (.cells #[.pointer (some ⟨13, 115, none⟩), .pointer (some ⟨w.heap.size, 0, none⟩), .int .u64 150] 160)).alloc (.cells #[.int .i64 e, .int .i64 l, .int .i64 c] 113) = W4 at *
  exact ⟨rfl, hcg.set _, fun t ht => KT.trans (.of_below hb4) (KT.setRow hcg ht _), below_setRow6 (hb4.mono (Nat.le_of_lt hlt)) (Nat.le_refl _) _⟩
set_option maxRecDepth 40000 in
set_option maxHeartbeats 4000000 in
theorem faultIn_any (w : World) (hE : ErrT w) (e l c : Int) : Calls Tryz.prog 24 #[bk e l c] w fun x w' => x = .returned (.agg #[.int .i64 e, .int .i64 l, .int .i64 c]) ∧ Below w.heap.size w w' := by
  have hc113 : Cel ((w.alloc (.cells #[.int .i64 0, .int .i64 0, .int .i64 0] 27)).alloc (.cells #[.int .i64 0, .int .i64 0, .int .i64 0] 113)) (w.heap.size + 1) 113 [.int .i64 0, .int .i64 0, .int .i64 0] := by
    have := Cel.new (w.alloc (.cells #[.int .i64 0, .int .i64 0, .int .i64 0] 27)) 113 [.int .i64 0, .int .i64 0, .int .i64 0]
    rw [alloc_size] at this
    exact this
  have H40 := hid (as_hit2 e l c (w.heap.size + 1) [.int .i64 0, .int .i64 0, .int .i64 0] rfl ((w.alloc (.cells #[.int .i64 0, .int .i64 0, .int .i64 0] 27)).alloc (.cells #[.int .i64 0, .int .i64 0, .int .i64 0] 113)) ((hE.on (below_one _ _)).on (below_one _ _)) hc113)
  have HC0 : Hid (Cel ((w.alloc (.cells #[.int .i64 0, .int .i64 0, .int .i64 0] 27)).alloc (.cells #[.int .i64 0, .int .i64 0, .int .i64 0] 113)) w.heap.size 27 [.int .i64 0, .int .i64 0, .int .i64 0]) := hid ((Cel.new w 27 [.int .i64 0, .int .i64 0, .int .i64 0]).on (below_one _ _))
  have HB0 : Hid (Below w.heap.size w ((w.alloc (.cells #[.int .i64 0, .int .i64 0, .int .i64 0] 27)).alloc (.cells #[.int .i64 0, .int .i64 0, .int .i64 0] 113))) := hid (below_two _ _ _)
  clear hc113
  simp only [bk] at H40 ⊢
  go_enter Tryz.func24, Tryz.ntmps24
  go_wp2_with fail
  refine H40.out.mono ?_
  rintro x w1 ⟨rfl, hc1, hk1, hb1⟩
  have HC1 : Hid (Cel w1 w.heap.size 27 [.int .i64 0, .int .i64 0, .int .i64 0]) := hid (HC0.out.kt (hk1 27 (by decide)))
  have HB1 : Hid (Below w.heap.size w w1) := hid (HB0.out.trans (hb1.mono (by omega)))
  generalize w.heap.size + 1 = gb at *
  have z0 : w1.cell? ⟨gb, 0, none⟩ = some (.int .i64 e) := hc1.cell 0
  have z1 : w1.cell? ⟨gb, 1, none⟩ = some (.int .i64 l) := hc1.cell 1
  have z2 : w1.cell? ⟨gb, 2, none⟩ = some (.int .i64 c) := hc1.cell 2
  have y0 : w1.cell? ⟨w.heap.size, 0, none⟩ = some (.int .i64 0) := HC1.out.cell 0
  have y1 : w1.cell? ⟨w.heap.size, 1, none⟩ = some (.int .i64 0) := HC1.out.cell 1
  have y2 : w1.cell? ⟨w.heap.size, 2, none⟩ = some (.int .i64 0) := HC1.out.cell 2
  have f0 := HC1.out.free 0
  have f1 := HC1.out.free 1
  have f2 := HC1.out.free 2
  clear hc1 hk1 hb1 H40 HB0 HC0
  go_wp2_with fail
  exact ret_st rfl rfl w.heap.size #[.int .i64 e, .int .i64 l, .int .i64 c] rfl (((HC1.out.setCell 0 (.int .i64 e)).setCell 1 (.int .i64 l)).setCell 2 (.int .i64 c)) Tryz.underlying27 rfl sizeFault ⟨rfl, ((HB1.out.setCell (p := ⟨w.heap.size, 0, none⟩) (Nat.le_refl _) _).setCell (p := ⟨w.heap.size, 1, none⟩) (Nat.le_refl _) _).setCell (p := ⟨w.heap.size, 2, none⟩) (Nat.le_refl _) _⟩
end Go.Proofs.YtncnogndopgknaaGreatDoor
namespace Go.Proofs.YtncnogndopgknaaGreatDoor
open Go.RowKit
theorem ret_ts {P : Program} {fn : Func} {p q : Tmp} {ty e : TypeId} {d : TypeDesc} {a : Act} {w : World} {post : Ending → World → Prop} (hr : fn.results = #[.tmp q, .cell p ty]) (hd : a.defers = []) (g : Nat) (cs : List Value)
    (hp : a.tmps.getD p undef = .pointer (some ⟨g, 0, none⟩)) (hb : Cel w g e cs) (hu : P.underlying ty = some d) (hdd : (match d with | .struct _ | .array _ _ => true | _ => false) = true) (hi : (P.info? ty).map (·.size) = some cs.length) (h : post (.returned (.tuple #[a.tmps.getD q undef, .agg cs.toArray])) w) :
    bodyPost P fn post .ret a w := by
  refine bodyPost_ret (v := .tuple #[a.tmps.getD q undef, .agg cs.toArray]) ?_ hd h
  have hp' : a.tmps[p]?.getD undef = .pointer (some ⟨g, 0, none⟩) := by simpa using hp
  have := run_loadVar_row (P := P) w g e ty _ (0, 0) _ hb hu hdd (by rw [hi]; simp)
  simp [results, hr, hp', asAddr, this]
theorem read_all (W : World) (hT : TM W) (m : Int) (hm : W.cell? ⟨7, 0, none⟩ = some (.int .i64 m)) (s : ByteArray) (base : Nat) (hbase : base < 4294967296) :
    Calls Tryz.prog 23 #[.string s, .int .u32 (base : Int)] W fun x w' => PgPost W base (S.asm s.data.toList base) x w' := by
  by_cases hs : s.size ≤ 65536
  · exact read_any6 W hT m hm s hs base hbase
  · have e : S.asm s.data.toList base = .inl (2, 0, 0) := by
      unfold S.asm S.read
      rw [if_pos (by rw [size_list]; omega)]
    rw [e]
    exact read_long W s (by omega) base
def AmPost (W : World) (r : (Int × Nat × Nat) ⊕ (List Nat × List (List UInt8 × Nat))) (x : Ending) (w' : World) : Prop :=
  match r with
  | .inl f => x = .returned (.tuple #[.slice none 0 0, .agg #[.int .i64 f.1, .int .i64 (f.2.1 : Int), .int .i64 (f.2.2 : Int)]]) ∧ Below W.heap.size W w'
  | .inr y => ∃ v, x = .returned (.tuple #[v, .agg #[.int .i64 0, .int .i64 0, .int .i64 0]]) ∧ w'.ownsRow W.heap.size 22 1 v y.1.length (u32s y.1) ∧ Below W.heap.size W w'
theorem own_less {w : World} {B B' n z : Nat} {e : TypeId} {v : Value} {xs : List Value} (h : w.ownsRow B e z v n xs) (hB : B' ≤ B) : w.ownsRow B' e z v n xs :=
  ⟨h.1, h.2.imp id fun ⟨g, cap, cur, a, b, c⟩ => ⟨g, cap, cur, a, Nat.le_trans hB b, c⟩⟩
set_option maxRecDepth 40000 in
set_option maxHeartbeats 4000000 in
theorem assemble_any (W : World) (hT : TM W) (hE : ErrT W) (m : Int) (h7 : 7 < W.heap.size) (hm : W.cell? ⟨7, 0, none⟩ = some (.int .i64 m)) (s : ByteArray) (base : Nat) (hbase : base < 4294967296) :
    Calls Tryz.prog 9 #[.string s, .int .u32 (base : Int)] W fun x w' => AmPost W (S.asm s.data.toList base) x w' := by
  have HX : Hid (Below W.heap.size W (W.alloc (.cells #[.int .i64 0, .int .i64 0, .int .i64 0] 27)) ∧ Cel (W.alloc (.cells #[.int .i64 0, .int .i64 0, .int .i64 0] 27)) W.heap.size 27 [.int .i64 0, .int .i64 0, .int .i64 0]) := hid ⟨below_one _ _, Cel.new _ _ _⟩
  have H23 := hid (read_all (W.alloc (.cells #[.int .i64 0, .int .i64 0, .int .i64 0] 27)) (hT.on HX.out.1) m (by rw [HX.out.1.cell (p := ⟨7, 0, none⟩) h7]; exact hm) s base hbase)
  have HE : Hid (ErrT (W.alloc (.cells #[.int .i64 0, .int .i64 0, .int .i64 0] 27))) := hid (hE.on HX.out.1)
  generalize S.asm s.data.toList base = r at *
  clear hT hE hm hbase
  go_enter Tryz.func9, Tryz.ntmps9
  go_wp2_with fail
  generalize W.alloc (.cells #[.int .i64 0, .int .i64 0, .int .i64 0] 27) = X at *
  refine H23.out.mono ?_
  intro e w1 hpost
  cases r with
  | inl f =>
    obtain ⟨rfl, hb1⟩ := hpost
    have H24 := hid (faultIn_any w1 (HE.out.on hb1) f.1 (f.2.1 : Int) (f.2.2 : Int))
    simp only [bk] at H24 ⊢
    have HC1 : Hid (Cel w1 W.heap.size 27 [.int .i64 0, .int .i64 0, .int .i64 0] ∧ Below W.heap.size W w1) := hid ⟨HX.out.2.on hb1, HX.out.1.trans (hb1.mono HX.out.1.size)⟩
    clear hb1 H23 HE HX
    go_wp2_with (go_at_call 24; refine H24.out.mono ?_; rintro e w2 ⟨rfl, hb2⟩; have HC2 : Hid (Cel w2 W.heap.size 27 [.int .i64 0, .int .i64 0, .int .i64 0] ∧ Below W.heap.size W w2) := hid ⟨HC1.out.1.on hb2, below_on HC1.out.2 hb2⟩; have y0 : w2.cell? ⟨W.heap.size, 0, none⟩ = some (.int .i64 0) := HC2.out.1.cell 0; have y1 : w2.cell? ⟨W.heap.size, 1, none⟩ = some (.int .i64 0) := HC2.out.1.cell 1; have y2 : w2.cell? ⟨W.heap.size, 2, none⟩ = some (.int .i64 0) := HC2.out.1.cell 2; have f0 := HC2.out.1.free 0; have f1 := HC2.out.1.free 1; have f2 := HC2.out.1.free 2)
    exact ret_ts rfl rfl W.heap.size [.int .i64 f.1, .int .i64 (f.2.1 : Int), .int .i64 (f.2.2 : Int)] rfl (((HC2.out.1.setCell 0 (.int .i64 f.1)).setCell 1 (.int .i64 (f.2.1 : Int))).setCell 2 (.int .i64 (f.2.2 : Int))) Tryz.underlying27 rfl sizeFault ⟨rfl, ((HC2.out.2.setCell (p := ⟨W.heap.size, 0, none⟩) (Nat.le_refl _) _).setCell (p := ⟨W.heap.size, 1, none⟩) (Nat.le_refl _) _).setCell (p := ⟨W.heap.size, 2, none⟩) (Nat.le_refl _) _⟩
  | inr y =>
    obtain ⟨V, g, gm, line, lat, fs, i, vw, vl, vf, rfl, hbV, hPF⟩ := hpost
    have HPF := hid hPF
    have HXV : Hid (Below X.heap.size X V) := hbV
    have HB1 : Hid (Below X.heap.size X w1) := hid (hbV.trans (hPF.below.mono hbV.size))
    have HC1 : Hid (Cel w1 W.heap.size 27 [.int .i64 0, .int .i64 0, .int .i64 0] ∧ Below W.heap.size W w1) := hid ⟨HX.out.2.on HB1.out, HX.out.1.trans (HB1.out.mono HX.out.1.size)⟩
    have g2 : w1.cell? ⟨g, 2, none⟩ = some vw := hPF.cel.cell 2
    have y0 : w1.cell? ⟨W.heap.size, 0, none⟩ = some (.int .i64 0) := HC1.out.1.cell 0
    have y1 : w1.cell? ⟨W.heap.size, 1, none⟩ = some (.int .i64 0) := HC1.out.1.cell 1
    have y2 : w1.cell? ⟨W.heap.size, 2, none⟩ = some (.int .i64 0) := HC1.out.1.cell 2
    have f0 := HC1.out.1.free 0
    have f1 := HC1.out.1.free 1
    have f2 := HC1.out.1.free 2
    clear hPF hbV H23 HE
    go_wp2_with fail
    have c0 := HC1.out.1.setCell 0 (.int .i64 0)
    have c1 := c0.setCell 1 (.int .i64 0)
    have hk : KT 22 w1 (((w1.setCell ⟨W.heap.size, 0, none⟩ (.int .i64 0)).setCell ⟨W.heap.size, 1, none⟩ (.int .i64 0)).setCell ⟨W.heap.size, 2, none⟩ (.int .i64 0)) := KT.trans (KT.trans (KT.setCell HC1.out.1 (by decide) 0 _) (KT.setCell c0 (by decide) 1 _)) (KT.setCell c1 (by decide) 2 _)
    exact ret_ts rfl rfl W.heap.size [.int .i64 0, .int .i64 0, .int .i64 0] rfl (c1.setCell 2 (.int .i64 0)) Tryz.underlying27 rfl sizeFault ⟨_, rfl, own_less (own_kt HPF.out.wr hk) (Nat.le_trans HX.out.1.size HXV.out.size), ((HC1.out.2.setCell (p := ⟨W.heap.size, 0, none⟩) (Nat.le_refl _) _).setCell (p := ⟨W.heap.size, 1, none⟩) (Nat.le_refl _) _).setCell (p := ⟨W.heap.size, 2, none⟩) (Nat.le_refl _) _⟩
end Go.Proofs.YtncnogndopgknaaGreatDoor
namespace Go.Proofs.YtncnogndopgknaaGreatDoor
open Go.RowKit
namespace S
def okS : (Int × Nat) ⊕ St → Prop
  | .inl f => f.1 ≠ 0
  | .inr st' => st'.ws.length ≤ 2048
def okT : (Int × Nat × Nat) ⊕ St → Prop
  | .inl f => f.1 ≠ 0
  | .inr st' => st'.ws.length ≤ 2048 ∧ ∀ t ∈ st'.lat, Lok st'.ws.length t
end S
end Go.Proofs.YtncnogndopgknaaGreatDoor
namespace Go.Proofs.YtncnogndopgknaaGreatDoor
open Go.RowKit
namespace S
def shL (k : Nat) (t : Lt) : Lt := { t with line := t.line + k }
def sh (k : Nat) (st : St) : St := { st with lat := st.lat.map (shL k) }
def shS (k : Nat) : (Int × Nat) ⊕ St → (Int × Nat) ⊕ St
  | .inl f => .inl f
  | .inr st => .inr (sh k st)
def shT (k : Nat) : (Int × Nat × Nat) ⊕ St → (Int × Nat × Nat) ⊕ St
  | .inl f => .inl (f.1, f.2.1 + k, f.2.2)
  | .inr st => .inr (sh k st)
def pre2 : List UInt8 := [35, 32, 120, 58, 32, 121, 10, 32, 9, 10]
def exT : List UInt8 := [108, 105, 32, 114, 50, 32, 101, 110, 100, 10, 120, 58, 32, 98, 32, 97, 108, 32, 120, 10, 119, 111, 114, 100, 32, 101, 110, 100, 10, 101, 110, 100, 58]
theorem ex_asm : asm exT 4096 = .inr ([75501584, 142606336, 1409351679, 4112], [([120], 2), ([101, 110, 100], 4)]) := by decide +kernel
end S
end Go.Proofs.YtncnogndopgknaaGreatDoor
