import Derived.Test.YtgbpbfnpeeciaaaGreatP34
import Derived.Test.YtgbpbfnpeeciaaaGreatP19
import Derived.Test.YtgbpbfnpeeciaaaGreatP29
import Derived.Test.YtgbpbfnpeeciaaaGreatP32
import Derived.Test.YtgbpbfnpeeciaaaGreatP14
import Derived.Test.YtgbpbfnpeeciaaaGreatP24
import Derived.Test.YtgbpbfnpeeciaaaGreatP22
namespace Go.Proofs.YtgbpbfnpeeciaaaGreat
open Go.RowKit
set_option maxRecDepth 100000
set_option maxHeartbeats 8000000
theorem under98 : Tryz.prog.underlying 98 = some (.slice 175) := by kernel_rfl
theorem info175 : (Tryz.prog.info? 175).map (fun i => (i.zero, i.size, i.bytes)) = some (some (.agg #[.int .u32 0, .bool false, .int .i64 0, .bool false, .bool false]), 5, 32) := by kernel_rfl
def aC (x : Int × Mp) : List Value := [.int .u32 x.1, .bool x.2.s, .int .i64 x.2.p, .bool x.2.wr, .bool x.2.ex]
def aflat (A : List (Int × Mp)) : List Value := A.flatMap aC
theorem aflat_snoc (A : List (Int × Mp)) (x : Int × Mp) : aflat (A ++ [x]) = aflat A ++ aC x := by simp [aflat]
theorem aC_one (x : Int × Mp) : ∀ u ∈ aC x, u.oneCell' = true := by
  intro u hu
  simp only [aC, List.mem_cons, List.not_mem_nil, or_false] at hu
  rcases hu with rfl | rfl | rfl | rfl | rfl <;> rfl
theorem wpList_append_a {B : Nat} {w : World} {ops : Array Oper} {rest : List Oper} {o : Oper} {a : Act} {Q : Exit → Act → World → Prop} (hgd : o.guard = none) (s x : Operand)
    (ho : o.op = .call { callee := .builtin .append, args := #[s, x], argTypes := #[98, 98] }) (v : Value) (A : List (Int × Mp)) (hs : a.eval s = v) (H : w.ownsRow B 175 5 v A.length (aflat A)) (hB : B ≤ w.heap.size) (ad : Addr) (c : Nat) (y : Int × Mp) (hx : a.eval x = .slice (some ad) 1 c)
    (hsrc : ∀ j u, (aC y)[j]? = some u → w.cell? (ad.add j) = some u) (hlen : A.length ≤ 1000000)
    (h : ∀ v' w', w'.ownsRow B 175 5 v' (A ++ [y]).length (aflat (A ++ [y])) → w.grownBy w' v.ownBlock → wpList Tryz.prog ops Q rest (a.put o.dst v') w') : wpList Tryz.prog ops Q (o :: rest) a w := by
  obtain ⟨i, hi, hz, hsize, hby⟩ := info_parts info175
  obtain ⟨v', w', hr, h1, h2, _⟩ := run_append_own (P := Tryz.prog) w B 98 o.type 175 i (.agg #[.int .u32 0, .bool false, .int .i64 0, .bool false, .bool false]) 5 32 under98 hi hz hsize hby rfl (by decide) v A.length _ H ad 1 c (aC y) rfl hsrc (aC_one y) (by unfold maxLen; omega) (by omega) hB
  have hH : w'.ownsRow B 175 5 v' (A ++ [y]).length (aflat (A ++ [y])) := by rw [List.length_append, aflat_snoc]; exact h1
  refine wpList_plain hgd fun K hK => ?_
  unfold Oper.wp execOp
  simp only [ho, resolve, invoke, builtin, Sem.run_bind, Sem.run_pure, Result.andThen_ok, List.map_toArray, List.map_cons, List.map_nil, hs, hx, hr]
  exact hK _ _ (h _ _ hH h2)
structure RL (W w : World) (v : Value) (A : List (Int × Mp)) : Prop where
  own : w.ownsRow W.heap.size 175 5 v A.length (aflat A)
  below : Below W.heap.size W w
theorem RL.but {W w w' : World} {v : Value} {A : List (Int × Mp)} {G : List Nat} (h : RL W w v A) (hb : ButL G w w') (hG : ∀ k ∈ G, W.heap.size ≤ k ∧ ∀ cur, w.heap[k]? ≠ some (.cells cur 175 (0, 0))) : RL W w' v A :=
  ⟨⟨h.own.1, h.own.2.imp id fun ⟨g, cap, cur, hv, hB, hg, r⟩ => ⟨g, cap, cur, hv, hB, (hb.block g (Array.getElem?_eq_some_iff.1 hg).1 (fun hm => (hG g hm).2 cur hg)).trans hg, r⟩⟩, h.below.trans (hb.below (fun k hk => (hG k hk).1) h.below.size)⟩
theorem RL.on {W w w' : World} {v : Value} {A : List (Int × Mp)} (h : RL W w v A) (hb : Below w.heap.size w w') : RL W w' v A := h.but (.of (G := []) hb) (by simp)
theorem RL.st {W w w' : World} {v : Value} {A : List (Int × Mp)} {g : Nat} {cs : List Value} (h : RL W w v A) (hg : W.heap.size ≤ g) (hc : Cel w g 31 cs) (hb : ButL [g] w w') : RL W w' v A :=
  h.but hb (fun k hk => by
    rw [List.mem_singleton] at hk
    subst hk
    refine ⟨hg, fun cur hq => ?_⟩
    have hq' : Cel w k 175 cur.toList := by show w.heap[k]? = _; rw [hq]
    exact absurd (hc.ty hq') (by decide))
theorem RL.grow {W w w' : World} {v v' : Value} {A A' : List (Int × Mp)} (h : RL W w v A) (h2 : w'.ownsRow W.heap.size 175 5 v' A'.length (aflat A')) (hgr : w.grownBy w' v.ownBlock) : RL W w' v' A' := by
  refine ⟨h2, ?_⟩
  obtain ⟨G, hG⟩ : ∃ G : List Nat, G = v.ownBlock.toList := ⟨_, rfl⟩
  have hbt : ButL G w w' := grown_but hgr (fun b hb => by rw [hG, hb]; simp)
  refine h.below.trans (hbt.below (fun k hk => ?_) h.below.size)
  rw [hG, Option.mem_toList] at hk
  rcases h.own.2 with ⟨hv, h0⟩ | ⟨g, cap, cur, hv, hB, hg, r⟩
  · rw [hv] at hk; cases hk
  · rw [hv] at hk
    have : g = k := by injection hk
    subst this
    exact hB
def DS.rin (d : DS) (s i : Int) : Nat → List (Int × Mp)
  | 0 => []
  | n + 1 => d.rin s i n ++ (if d.atE s (jW i n 0) = 0 then [(jW i n 0, d.atM s (jW i n 0))] else [])
def DS.rlst (d : DS) (s : Int) : Nat → List (Int × Mp)
  | 0 => []
  | n + 1 => d.rlst s n ++ (if d.fndE s (jW n 0 0) = 0 then d.rin s n 1024 else [])
theorem DS.rin_len (d : DS) (s i : Int) (n : Nat) : (d.rin s i n).length ≤ n := by
  induction n with
  | zero => exact Nat.le_refl _
  | succ n ih =>
    rw [DS.rin, List.length_append]
    split <;> simp <;> omega
theorem DS.rlst_len (d : DS) (s : Int) (n : Nat) : (d.rlst s n).length ≤ 1024 * n := by
  induction n with
  | zero => exact Nat.le_refl _
  | succ n ih =>
    rw [DS.rlst, List.length_append]
    have := d.rin_len s n 1024
    split
    · omega
    · simp; omega
theorem jW_r (i j : Int) : 0 ≤ jW i j 0 ∧ jW i j 0 < 4294967296 := by
  unfold jW
  by_cases h : JoinOk i j 0
  · rw [if_pos h]
    unfold JoinOk at h
    omega
  · rw [if_neg h]
    omega
theorem rlist_any (W : World) (p : Rp) (d : DS) (h : RDB W p d) (hU : d.m.U) (s : Int) :
    Calls Tryz.prog 43 #[ptr p.g, .int .i64 s] W fun x W' =>
      (d.folE s ≠ 0 ∧ x = .returned (.tuple #[.slice none 0 0, .int .i64 (d.folE s)]) ∧ Below W.heap.size W W') ∨
      (d.folE s = 0 ∧ ∃ v, x = .returned (.tuple #[v, .int .i64 0]) ∧ RL W W' v (d.rlst s 256)) := by
  have HT := hid (rtable_any W p d h hU s)
  have HP := hid (fun (w : World) (hw : Below W.heap.size W w) (i : Int) => rplc_any w p d (h.on hw) hU s (jW i 0 0) (jW_r i 0).1 (jW_r i 0).2)
  have HA := hid (fun (w : World) (hw : Below W.heap.size W w) (i j : Int) => rat_any w p d (h.on hw) hU s (jW i j 0) (jW_r i j).1 (jW_r i j).2)
  have HJ := hid (fun (w : World) (i j : Int) => rjoin_any w i j 0)
  have HLn := hid (d.rlst_len s)
  have HIn := hid (d.rin_len s)
  have HS : Hid (∀ n : Nat, d.rlst s (n + 1) = d.rlst s n ++ (if d.fndE s (jW n 0 0) = 0 then d.rin s n 1024 else [])) := hid (fun _ => rfl)
  have HSi : Hid (∀ (i : Int) (n : Nat), d.rin s i (n + 1) = d.rin s i n ++ (if d.atE s (jW i n 0) = 0 then [(jW i n 0, d.atM s (jW i n 0))] else [])) := hid (fun _ _ => rfl)
  have H0 : Hid (d.rlst s 0 = [] ∧ ∀ i, d.rin s i 0 = []) := hid ⟨rfl, fun _ => rfl⟩
  clear h hU
  generalize d.folE s = fo at *
  generalize d.fst s = t at *
  have HB0 : Hid (RL W W (.slice none 0 0) (d.rlst s 0)) := hid ⟨⟨rfl, .inl ⟨rfl, rfl⟩⟩, .refl _ _⟩
  generalize d.rlst s = R at *
  generalize d.rin s = I at *
  simp only [ptr] at *
  by_cases hfo : fo = 0
  · subst hfo
    rw [if_pos rfl] at HT
    go_enter Tryz.func43, Tryz.ntmps43
    go_wp2_with fail
    refine HT.out.mono ?_
    rintro e w1 ⟨rfl, hb1⟩
    have HB1 := hid (HB0.out.on hb1)
    clear hb1 HT HB0
    go_upto_region 6 with fail
    go_loopw [6, 9] (fun l i wr => ∃ (k : Nat) (v : Value), k ≤ 256 ∧ i = .int .i64 (k : Int) ∧ l = v ∧ Hid (RL W wr v (R k))) (fun _ i _ => 256 - (intOf i).toNat)
    case atStart => exact ⟨0, _, Nat.zero_le _, rfl, rfl, HB1⟩
    case round =>
      obtain ⟨k, v, hk, rfl, rfl, HQ⟩ := hrel
      clear HB1
      by_cases hlt : k < 256
      · have hk0 : (k : Int) < 256 := by omega
        have HK : Hid (k < 256) := hid hlt
        clear hk hlt
        go_wp2_with fail
        refine (HJ.out _ _ _).mono ?_
        rintro e w2 ⟨rfl, rfl⟩
        go_wp2_with fail
        refine (HP.out _ HQ.out.below _).mono ?_
        rintro e w3 ⟨rfl, hb3⟩
        have HQ3 := hid (HQ.out.on hb3)
        clear hb3 HQ
        by_cases hf : d.fndE s (jW k 0 0) = 0
        · have HR : Hid (R (k + 1) = R k ++ I k 1024) := hid (by rw [HS.out, if_pos hf])
          have HQ4 : Hid (RL W w3 u6 (R k ++ I k 0)) := hid (by rw [H0.out.2, List.append_nil]; exact HQ3.out)
          clear HQ3
          rw [if_pos hf, if_pos hf, hf]
          go_upto_region 12 with fail
          go_loopw [6, 15] (fun l j wr => ∃ (m : Nat) (v : Value), m ≤ 1024 ∧ j = .int .i64 (m : Int) ∧ l = v ∧ Hid (RL W wr v (R k ++ I k m))) (fun _ j _ => 1024 - (intOf j).toNat)
          case atStart => exact ⟨0, _, Nat.zero_le _, rfl, rfl, HQ4⟩
          case round =>
            obtain ⟨m, v, hm, rfl, rfl, HQ⟩ := hrel
            clear HQ4
            by_cases hlt : m < 1024
            · have hm0 : (m : Int) < 1024 := by omega
              have HM : Hid (m < 1024) := hid hlt
              clear hm hlt
              go_wp2_with fail
              refine (HJ.out _ _ _).mono ?_
              rintro e w4 ⟨rfl, rfl⟩
              go_wp2_with fail
              refine (HA.out _ HQ.out.below _ _).mono ?_
              rintro e w5 ⟨rfl, hb5⟩
              have HQ5 := hid (HQ.out.on hb5)
              clear hb5 HQ
              have HNx : Hid (R k ++ I k (m + 1) = (R k ++ I k m) ++ (if d.atE s (jW k m 0) = 0 then [(jW k m 0, d.atM s (jW k m 0))] else [])) := hid (by rw [HSi.out, List.append_assoc])
              have HLen : Hid ((R k ++ I k m).length ≤ 1000000) := hid (by rw [List.length_append]; have := HLn.out k; have := HIn.out k m; have := HK.out; have := HM.out; omega)
              generalize R k ++ I k m = A at HNx HLen HQ5
              generalize d.atM s (jW k m 0) = M at *
              generalize d.atE s (jW k m 0) = E at *
              generalize jW k m 0 = va at *
              by_cases hE : E = 0
              · subst hE
                rw [if_pos rfl] at HNx
                simp only [Mp.v]
                go_wp2_with (first | (refine wpList_store_st rfl 31 _ _ rfl w5.heap.size [.bool M.s, .int .i64 M.p, .bool M.wr, .bool M.ex] rfl rfl (Cel.new w5 31 [.bool false, .int .i64 0, .bool false, .bool false]) size31 rfl rfl ?_; intro w6 hc hb hs; have HQ6 := hid ((HQ5.out.on (below_one w5 (.cells #[.bool false, .int .i64 0, .bool false, .bool false] 31))).st (g := w5.heap.size) HQ5.out.below.size (Cel.new w5 31 [.bool false, .int .i64 0, .bool false, .bool false]) hb); have HC6 := hid hc; clear hc hb hs) | (refine wpList_load_g rfl 31 _ rfl w5.heap.size rfl HC6.out rfl under31 size31 ?_) | (at_builtin; refine wpList_append_a (B := W.heap.size) rfl _ _ rfl _ A rfl (HQ6.out.on (below_one w6 _)).own (HQ6.out.on (below_one w6 _)).below.size ⟨w6.heap.size, 0, none⟩ 1 (va, M) rfl (Cel.new w6 175 (aC (va, M))).src HLen.out ?_; intro v7 w7 ho hg; have HQ7 := hid ((HQ6.out.on (below_one w6 _)).grow ho hg); clear ho hg))
                go_roundw
                case measure => have := HM.out; simp [intOf] <;> omega
                case rel => exact ⟨m + 1, _, HM.out, by simp, rfl, by rw [HNx.out]; exact HQ7⟩
              · rw [if_neg hE, List.append_nil] at HNx
                have hE2 : (E == 0) = false := by simpa using hE
                simp only [Mp.v]
                go_wp2_with (first | (refine wpList_store_st rfl 31 _ _ rfl w5.heap.size [.bool M.s, .int .i64 M.p, .bool M.wr, .bool M.ex] rfl rfl (Cel.new w5 31 [.bool false, .int .i64 0, .bool false, .bool false]) size31 rfl rfl ?_; intro w6 hc hb hs; have HQ6 := hid ((HQ5.out.on (below_one w5 (.cells #[.bool false, .int .i64 0, .bool false, .bool false] 31))).st (g := w5.heap.size) HQ5.out.below.size (Cel.new w5 31 [.bool false, .int .i64 0, .bool false, .bool false]) hb); clear hc hb hs))
                go_roundw
                case measure => have := HM.out; simp [intOf] <;> omega
                case rel => exact ⟨m + 1, _, HM.out, by simp, rfl, by rw [HNx.out]; exact HQ6⟩
            · have hm9 : m = 1024 := by omega
              subst hm9
              clear hlt hm
              rw [← HR.out] at HQ
              go_wp2_with fail
              go_roundw
              case measure => have := HK.out; simp [intOf] <;> omega
              case rel => exact ⟨k + 1, _, HK.out, by simp, rfl, HQ⟩
        · have hf2 : (d.fndE s (jW k 0 0) == 0) = false := by simpa using hf
          have HR : Hid (R (k + 1) = R k) := hid (by rw [HS.out, if_neg hf, List.append_nil])
          rw [if_neg hf, if_neg hf]
          go_wp2_with fail
          go_roundw
          case measure => have := HK.out; simp [intOf] <;> omega
          case rel => exact ⟨k + 1, _, HK.out, by simp, rfl, by rw [HR.out]; exact HQ3⟩
      · have hk9 : k = 256 := by omega
        subst hk9
        clear hlt hk
        go_wp2_with fail
        go_ret2
        exact .inr ⟨by trivial, _, rfl, HQ.out⟩
  · rw [if_neg hfo] at HT
    have h8 : (fo == 0) = false := by simpa using hfo
    go_enter Tryz.func43, Tryz.ntmps43
    go_wp2_with fail
    refine HT.out.mono ?_
    rintro e w1 ⟨rfl, hb1⟩
    have HB1 := hid hb1
    clear hb1 HT
    go_wp2_with fail
    go_ret2
    exact .inl ⟨hfo, rfl, HB1.out⟩
end Go.Proofs.YtgbpbfnpeeciaaaGreat
namespace Go.Proofs.YtgbpbfnpeeciaaaGreat
open Go.RowKit
set_option maxRecDepth 100000
set_option maxHeartbeats 4000000
theorem DS.Sim.turnE {d e : DS} (h : DS.Sim d e) (q t : Int) : e.turnE q t = d.turnE q t := by unfold DS.turnE; rw [h.entE, h.ent]
theorem DS.Sim.typE {d e : DS} (h : DS.Sim d e) (q t : Int) : e.typE q t = d.typE q t := by unfold DS.typE; rw [h.there, h.ent]
theorem DS.Sim.stateE {d e : DS} (h : DS.Sim d e) (q s : Int) : e.stateE q s = d.stateE q s := by unfold DS.stateE; rw [h.typE, h.ent]
theorem DS.Sim.giveE {d e : DS} (h : DS.Sim d e) (q : Int) : e.giveE q = d.giveE q := by unfold DS.giveE; rw [h.entE, h.ent]
theorem DS.Sim.cutE {d e : DS} (h : DS.Sim d e) (s va : Int) : e.cutE s va = d.cutE s va := by unfold DS.cutE; rw [h.fndE, h.w2]
theorem DS.Sim.mE {d e : DS} (h : DS.Sim d e) (w : Int) : e.m.mE w = d.m.mE w := by unfold MS.mE; rw [h.mat]
theorem DS.Sim.mM {d e : DS} (h : DS.Sim d e) (w : Int) : e.m.mM w = d.m.mM w := by unfold MS.mM; rw [h.mE]
theorem DS.Sim.atE {d e : DS} (h : DS.Sim d e) (s va : Int) : e.atE s va = d.atE s va := by unfold DS.atE; rw [h.fndE, h.w2, h.mE]
theorem DS.Sim.atM {d e : DS} (h : DS.Sim d e) (s va : Int) : e.atM s va = d.atM s va := by unfold DS.atM; rw [h.fndE, h.w2, h.mM]
theorem DS.Sim.turn {d e : DS} (h : DS.Sim d e) (q t : Int) : DS.Sim (d.turn q t) (e.turn q t) := by
  unfold DS.turn
  rw [h.turnE]
  split
  · unfold DS.turned
    rw [h.ent]
    exact (h.lay _ _).wipe _
  · exact h
theorem DS.Sim.state {d e : DS} (h : DS.Sim d e) (q s : Int) : DS.Sim (d.state q s) (e.state q s) := by
  unfold DS.state
  rw [h.stateE]
  split
  · unfold DS.stated
    rw [h.ent]
    exact h.lay _ _
  · exact h
theorem DS.Sim.give {d e : DS} (h : DS.Sim d e) (q : Int) : DS.Sim (d.give q) (e.give q) := by
  unfold DS.give
  rw [h.giveE]
  split
  · unfold DS.given DS.freed
    have k := (h.lay q.toNat En.zero).wipe q
    rw [h.ent, k.at]
    split
    · unfold DS.cnt
      rw [k.at]
      exact k.lay _ _
    · exact k
  · exact h
theorem DS.Sim.space {d e : DS} (h : DS.Sim d e) (s f : Int) : DS.Sim (d.takeSpace s f) (e.takeSpace s f) := by
  unfold DS.takeSpace
  rw [h.bearE]
  split
  · unfold DS.space MS.born
    rw [h.b]
    have k := (h.lay f.toNat (enF s)).lay s.toNat (enS s)
    have k3 := ((h.write true s 0 f).write true s 1 d.b).write true s 2 0
    exact ⟨k.E, rfl, k3.ns, k3.P⟩
  · exact h
theorem DS.Sim.cutS {d e : DS} (h : DS.Sim d e) (s va : Int) : DS.Sim (d.cutS s va) (e.cutS s va) := by
  unfold DS.cutS
  rw [h.cutE, h.w1]
  split
  · exact h.wr _ _ _
  · exact h
theorem DS.Sim.cut (d : DS) (s va : Int) : DS.Sim (d.cutS s va) (d.cut s va) := by
  unfold DS.cutS DS.cut DS.cutE
  by_cases h1 : d.fndE s va = 0
  · simp only [if_pos h1]
    unfold DS.tn
    split
    · exact ((DS.Sim.fndD d s va).trans (.rd _ _ _)).wr _ _ _
    · exact (DS.Sim.fndD d s va).trans (.rd _ _ _)
  · simp only [if_neg h1]
    exact .fndD d s va
theorem MS.p_set2 (m : MS) (k i : Nat) (L : List Int) (c : Int) : (MS.mk m.ns (m.P.set k L) c).p i = if k = i ∧ i < m.P.length then L else m.p i := by
  unfold MS.p
  simp only [List.getD_eq_getElem?_getD, List.getElem?_set]
  by_cases e : k = i
  · subst e
    by_cases h : k < m.P.length
    · simp [h]
    · simp [h]
  · simp [e]
theorem MS.zero_w (m : MS) (s : Bool) (p : Int) (i j : Nat) : wd ((m.zero s p).p i) j = 0 ∨ wd ((m.zero s p).p i) j = wd (m.p i) j := by
  unfold MS.zero
  split
  · exact .inr rfl
  · rename_i k _
    have := MS.p_set2 m k i zs (m.tick 1024).c
    show wd ((MS.mk m.ns (m.P.set k zs) (m.tick 1024).c).p i) j = 0 ∨ wd ((MS.mk m.ns (m.P.set k zs) (m.tick 1024).c).p i) j = wd (m.p i) j
    rw [this]
    split
    · exact .inl (wd_zsR j)
    · exact .inr rfl
theorem MS.U.zero {m : MS} (h : m.U) (s : Bool) (p : Int) : (m.zero s p).U := fun k j => by
  rcases m.zero_w s p k j with e | e <;> rw [e]
  · decide
  · exact h k j
theorem U_wr {d : DS} (h : d.m.U) (q o v : Int) (h0 : 0 ≤ v) (h1 : v < 4294967296) : (d.wr q o v).m.U := MS.U.write h true q o v h0 h1
theorem U_turn {d : DS} (h : d.m.U) (q t : Int) : (d.turn q t).m.U := by
  unfold DS.turn
  split
  · exact MS.U.zero h true q
  · exact h
theorem U_state {d : DS} (h : d.m.U) (q s : Int) : (d.state q s).m.U := by
  unfold DS.state
  split
  · exact h
  · exact h
theorem U_take {d : DS} (h : d.m.U) (q t s : Int) : (d.take q t s).m.U := by
  unfold DS.take
  split
  · exact h
  · exact h
theorem U_give {d : DS} (h : d.m.U) (q : Int) : (d.give q).m.U := by
  unfold DS.give
  split
  · unfold DS.given
    split
    · exact MS.U.zero h true q
    · exact MS.U.zero h true q
  · exact h
theorem U_space {d : DS} (hk : d.Ok) (h : d.m.U) (s f : Int) : (d.takeSpace s f).m.U := by
  unfold DS.takeSpace
  split
  · rename_i hb
    have hf := (bear_zero hb).2.1
    unfold DS.there at hf
    have hf2 : 0 ≤ f ∧ f < (d.m.ns : Int) := by simpa using hf
    have n64 := hk.n64
    have b0 := hk.b0
    have b1 := hk.b1
    exact ((h.write true s 0 f hf2.1 (by omega)).write true s 1 d.b b0 (by omega)).write true s 2 0 (by decide) (by decide)
  · exact h
theorem code_w {m : Mp} (h : m.err = 0) : 0 ≤ m.code ∧ m.code < 4294967296 := by
  unfold Mp.err at h
  split at h
  · rename_i hp
    obtain ⟨p0, p1⟩ := hp
    unfold Mp.code b2
    constructor <;> (repeat' split) <;> omega
  · cases h
theorem U_put {d : DS} (h : d.m.U) (s va : Int) (m : Mp) : (d.putS s va m).m.U := by
  unfold DS.putS
  split
  · have : 0 ≤ m.enc ∧ m.enc < 4294967296 := by
      unfold Mp.enc
      split
      · exact code_w ‹_›
      · decide
    exact U_wr h _ _ _ this.1 this.2
  · exact h
theorem U_add {d : DS} (h : d.m.U) (s i q : Int) : (d.addS s i q).m.U := by
  unfold DS.addS
  split
  · have : 0 ≤ fW q ∧ fW q < 4294967296 := by
      unfold fW
      split
      · rename_i h; obtain ⟨h0, h1⟩ := h; omega
      · decide
    exact U_wr h _ _ _ this.1 this.2
  · exact h
theorem U_cut {d : DS} (h : d.m.U) (s va : Int) : (d.cutS s va).m.U := by
  unfold DS.cutS
  split
  · exact U_wr h _ _ _ (by decide) (by decide)
  · exact h
theorem jW_key2 (k j : Nat) (hk : k < 256) (hj : j < 1024) : spE (jW k j 0) = 0 ∧ spI (jW k j 0) = k ∧ spJ (jW k j 0) = j := by
  have hJ : JoinOk (k : Int) (j : Int) 0 := by unfold JoinOk; omega
  have e : jW k j 0 = (k : Int) * 4194304 + (j : Int) * 4096 := by unfold jW; rw [if_pos hJ]; omega
  rw [e]
  have hv : VaOk ((k : Int) * 4194304 + (j : Int) * 4096) := by unfold VaOk; omega
  refine ⟨by unfold spE; rw [if_pos hv], by unfold spI; rw [if_pos hv]; omega, by unfold spJ; rw [if_pos hv]; omega⟩
theorem w1_jW (d : DS) (s : Int) (k j : Nat) (hk : k < 256) (hj : j < 1024) : d.w1 s (jW k j 0) = d.m.word true (d.fst s) k := by
  unfold DS.w1
  rw [(jW_key2 k j hk hj).2.1]
theorem fnd_jW {d : DS} {s : Int} (hf : d.folE s = 0) (k j : Nat) (hk : k < 256) (hj : j < 1024) : d.fndE s (jW k j 0) = if d.isS s (d.m.word true (d.fst s) k) = true then 0 else 141 := by
  unfold DS.fndE
  rw [(jW_key2 k j hk hj).1, w1_jW d s k j hk hj, hf]
  simp
theorem DS.Sim.rin {d e : DS} (h : DS.Sim d e) (s i : Int) : ∀ n, e.rin s i n = d.rin s i n
  | 0 => rfl
  | n + 1 => by
    unfold DS.rin
    rw [DS.Sim.rin h s i n, h.atE, h.atM]
theorem DS.Sim.rlst {d e : DS} (h : DS.Sim d e) (s : Int) : ∀ n, e.rlst s n = d.rlst s n
  | 0 => rfl
  | n + 1 => by
    unfold DS.rlst
    rw [DS.Sim.rlst h s n, h.fndE, h.rin]
end Go.Proofs.YtgbpbfnpeeciaaaGreat
namespace Go.Proofs.YtgbpbfnpeeciaaaGreat
open Go.RowKit
set_option maxHeartbeats 4000000
set_option maxRecDepth 100000
theorem begins_yes2 (W : World) (s i : Nat) (s1 : 1 ≤ s) (s2 : s ≤ 64) (i1 : 1 ≤ i) (i2 : i ≤ 64) :
    Calls Tryz.prog 4 #[.agg #[.int .i64 (s : Int), .int .i64 (i : Int)]] W fun x W' => ∃ gs p r, x = .returned (.tuple #[.pointer (some ⟨gs, 0, none⟩), .bool true, .bool true]) ∧ TP W W' p r r (DS.fresh (MS.new s i)) (DS.fresh (MS.new s i)) [(gs, 48, sdC p r)] ∧ (∀ k ∈ p.all ++ r.all, W.heap.size ≤ k) := by
  have BB : Hid (Below W.heap.size W (W.alloc (.cells #[.int .i64 (s : Int), .int .i64 (i : Int)] 23))) := hid (below_one _ _)
  have B0 : Hid (Cel (W.alloc (.cells #[.int .i64 (s : Int), .int .i64 (i : Int)] 23)) W.heap.size 23 [.int .i64 (s : Int), .int .i64 (i : Int)]) := hid (Cel.new W 23 [.int .i64 (s : Int), .int .i64 (i : Int)])
  have H1 := hid (fun w => new_any w s i s1 s2 i1 i2)
  have H2 := hid (fun w => rnew_any w s i s1 s2 i1 i2)
  have H3 := hid (fun w f (hm : Mem w f (MS.new s i)) => newDB_any w f (MS.new s i) hm (by show s ≤ 64; exact s2))
  have H4 := hid (fun w r (hm : RMem w r (MS.new s i)) => rnewDB_any w r (MS.new s i) hm (by show s ≤ 64; exact s2) (by show 0 < s; omega))
  clear s1 s2 i1 i2
  generalize MS.new s i = m at *
  generalize DS.fresh m = d at *
  simp only [ptr] at *
  go_enter Tryz.func4, Tryz.ntmps4
  go_upto_region 1 with fail
  generalize W.alloc _ = X at *
  generalize W.heap.size = g1 at B0 ⊢
  have x0 : X.cell? ⟨g1, 0, none⟩ = some (.int .i64 (s : Int)) := B0.out.cell 0
  have x1 : X.cell? ⟨g1, 1, none⟩ = some (.int .i64 (i : Int)) := B0.out.cell 1
  go_upto_region 2 with (go_at_call 9; refine (H1.out _).mono ?_; rintro e w1 ⟨f, rfl, h1⟩; have N1 := hid h1; clear h1 x0 x1)
  have B1 := hid (B0.out.on N1.out.below)
  have x0 : w1.cell? ⟨g1, 0, none⟩ = some (.int .i64 (s : Int)) := B1.out.cell 0
  have x1 : w1.cell? ⟨g1, 1, none⟩ = some (.int .i64 (i : Int)) := B1.out.cell 1
  go_upto_region 3 with (go_at_call 10; refine (H2.out _).mono ?_; rintro e w2 ⟨r, rfl, h2⟩; have N2 := hid h2; clear h2 x0 x1)
  have HM2 := hid (N1.out.mem.on N2.out.below)
  go_upto_region 8 with (go_at_call 11; refine (H3.out _ _ HM2.out).mono ?_; rintro e w3 ⟨g, gw, rfl, hd, hg, hgw, hb⟩; have N3 := hid (And.intro hd (And.intro hg (And.intro hgw hb))); have R3 := hid (N2.out.mem.frame hb (fun k hk hm => by have a := N2.out.new k hk; have b := N1.out.mem.lt k (Fp.w_all hm); omega)); clear hd hg hgw hb)
  go_wp2_with (go_at_call 12; refine (H4.out _ _ R3.out).mono ?_; rintro e w4 ⟨q, rfl, hn⟩; have N4 := hid (pair_new N1.out N2.out N3.out.1 N3.out.2.1 N3.out.2.2.1 N3.out.2.2.2 hn); clear hn)
  go_ret3
  exact ⟨_, ⟨g, gw, f⟩, q, rfl, ((N4.out.back BB.out).tp).box 48 (sdC ⟨g, gw, f⟩ q), fun k hk => (List.mem_append.1 hk).elim ((N4.out.back BB.out).pn k) ((N4.out.back BB.out).rn k)⟩
theorem begins_no2 (W : World) (s i : Int) (h : ¬ (1 ≤ s ∧ s ≤ 64 ∧ 1 ≤ i ∧ i ≤ 64)) :
    Calls Tryz.prog 4 #[.agg #[.int .i64 s, .int .i64 i]] W fun x W' => x = .returned (.tuple #[.pointer none, .bool true, .bool false]) ∧ Below W.heap.size W W' := by
  have BB : Hid (Below W.heap.size W (W.alloc (.cells #[.int .i64 s, .int .i64 i] 23))) := hid (below_one _ _)
  have B0 : Hid (Cel (W.alloc (.cells #[.int .i64 s, .int .i64 i] 23)) W.heap.size 23 [.int .i64 s, .int .i64 i]) := hid (Cel.new W 23 [.int .i64 s, .int .i64 i])
  have H1 := hid (fun w => new_no w s i h)
  have H2 := hid (fun w => rnew_no w s i h)
  clear h
  go_enter Tryz.func4, Tryz.ntmps4
  go_upto_region 1 with fail
  generalize W.alloc _ = X at *
  generalize W.heap.size = g1 at B0 ⊢
  have x0 : X.cell? ⟨g1, 0, none⟩ = some (.int .i64 s) := B0.out.cell 0
  have x1 : X.cell? ⟨g1, 1, none⟩ = some (.int .i64 i) := B0.out.cell 1
  go_upto_region 2 with (go_at_call 9; refine (H1.out _).mono ?_; rintro e w1 ⟨rfl, rfl⟩)
  go_upto_region 3 with (go_at_call 10; refine (H2.out _).mono ?_; rintro e w2 ⟨rfl, rfl⟩)
  go_wp2_with fail
  go_ret3
  exact ⟨rfl, BB.out⟩
theorem fresh_u (s i : Nat) : (DS.fresh (MS.new s i)).m.U := by
  show (MS.zall (MS.new s i) _).U
  generalize (MS.new s i).ns = n
  induction n with
  | zero => exact MS.U.new s i
  | succ k ih => exact MS.U.zero ih true (k : Int)
end Go.Proofs.YtgbpbfnpeeciaaaGreat
