import Derived.Test.YtgbpbfnpeeciaaaP40
import Derived.Test.YtgbpbfnpeeciaaaP37
import Derived.ArgAppend
import Derived.Laws.OwnMore
import Derived.Test.YtgbpbfnpeeciaaaP01
namespace Go.Proofs.Ytgbpbfnpeeciaaa
open Go.RowKit
set_option maxRecDepth 100000
theorem append_two {P : Program} {w : World} {base : Nat} {t ty e : TypeId} {i : TypeInfo} {z : Value} {size bytes : Nat} (ht : P.underlying t = some (.slice e)) (hi : P.info? e = some i) (hz : i.zero = some z) (hsize : i.size = size) (hby : i.bytes = bytes) (hzs : z.cells.size = size) (hsz : 0 < size)
    {v : Value} {n : Nat} {xs : List Value} (hown : w.ownsRow base e size v n xs) (hbase : base ≤ w.heap.size) {a : Addr} {m c : Nat} {news : List Value} (hl : news.length = m * size) (hnews : ∀ j u, news[j]? = some u → w.cell? (a.add j) = some u) (h1 : ∀ u ∈ news, u.oneCell' = true)
    (h63 : n + m ≤ maxLen) (hbytes : (n + m) * bytes ≤ 140737488355328) :
    ∃ v' w', (Builtin.append_ #[t, t] ty #[v, .slice (some a) m c]).run P w = .ok v' w' ∧
      ((∃ g cap, v = .slice (some ⟨g, 0, none⟩) n cap ∧ v' = .slice (some ⟨g, 0, none⟩) (n + m) cap ∧ w'.ownsRow base e size v' (n + m) (xs ++ news) ∧ ButL [g] w w') ∨
       (w'.ownsRow w.heap.size e size v' (n + m) (xs ++ news) ∧ Below w.heap.size w w')) := by
  have none_below : ∀ w', w.grownBy w' none → Below w.heap.size w w' := fun w' h => ⟨h.os, h.tape, h.output, h.size, fun k hk => h.block k hk (by simp)⟩
  rcases hown.2 with ⟨rfl, rfl⟩ | ⟨g, cap, cur, rfl, hbg, hg, hnc, hcm, hcs, htake⟩
  · have hx : xs = [] := List.eq_nil_of_length_eq_zero (by simpa using hown.1)
    subst hx
    obtain ⟨v2, w2, hr2, ho, hb, _⟩ := run_append_own (P := P) w w.heap.size t ty e i z size bytes ht hi hz hsize hby hzs hsz (.slice none 0 0) 0 [] (World.ownsRow_nil w _ e size) a m c news hl hnews h1 h63 hbytes (Nat.le_refl _)
    exact ⟨v2, w2, hr2, .inr ⟨ho, none_below _ hb⟩⟩
  · by_cases hroom : n + m ≤ cap
    · obtain ⟨v2, w2, hr2, ho, hb, _⟩ := run_append_own (P := P) w base t ty e i z size bytes ht hi hz hsize hby hzs hsz _ n xs hown a m c news hl hnews h1 h63 hbytes hbase
      have hfit : n * i.size + news.length ≤ cur.size := by rw [hcs, hl, hsize, ← Nat.add_mul]; exact Nat.mul_le_mul_right _ hroom
      have hr3 := run_append_room (P := P) w t ty e i ht hi g n cap cur hg a m c news (by rw [hsize]; exact hl) hnews h1 hroom hfit
      rw [hr3] at hr2
      cases hr2
      exact ⟨_, _, hr3, .inl ⟨g, cap, rfl, rfl, ho, hb.os, hb.tape, hb.output, hb.size, fun k hk hn => hb.block k hk (by simp only [Value.ownBlock]; simpa using hn)⟩⟩
    · have holds : ∀ j u, xs[j]? = some u → w.cell? ((⟨g, 0, none⟩ : Addr).add j) = some u := hown.cells (g := g) rfl
      obtain ⟨v2, w2, hr2, ho, hb⟩ := run_append_arg_grows (P := P) w t ty e i z size bytes ht hi hz hsize hby hzs hsz ⟨g, 0, none⟩ n cap xs hown.1 holds a m c news hl hnews (by omega) h63 hbytes
      exact ⟨v2, w2, hr2, .inr ⟨ho, none_below _ hb⟩⟩
theorem own_keep {x x' : World} {B : Nat} {e : TypeId} {st : Nat} {v : Value} {n : Nat} {xs : List Value} {G : List Nat} (h : x.ownsRow B e st v n xs) (hb : ButL G x x') (hG : ∀ g, v.ownBlock = some g → g ∉ G) : x'.ownsRow B e st v n xs :=
  ⟨h.1, h.2.imp id fun ⟨g, cap, cur, hv, hB, hg, r⟩ => ⟨g, cap, cur, hv, hB, (hb.block g (Array.getElem?_eq_some_iff.1 hg).1 (hG g (by rw [hv]; rfl))).trans hg, r⟩⟩
theorem own_mono {x : World} {B B' : Nat} {e : TypeId} {st : Nat} {v : Value} {n : Nat} {xs : List Value} (h : x.ownsRow B e st v n xs) (hB : B' ≤ B) : x.ownsRow B' e st v n xs :=
  ⟨h.1, h.2.imp id fun ⟨g, cap, cur, hv, hb, r⟩ => ⟨g, cap, cur, hv, Nat.le_trans hB hb, r⟩⟩
theorem own_cty {x : World} {B : Nat} {e : TypeId} {st : Nat} {v : Value} {n : Nat} {xs : List Value} (h : x.ownsRow B e st v n xs) {g : Nat} (hg : v.ownBlock = some g) : ∃ cs, Cel x g e cs := by
  rcases h.2 with ⟨rfl, _⟩ | ⟨g', cap, cur, rfl, _, hh, _⟩
  · cases hg
  · simp only [Value.ownBlock, Option.some.injEq] at hg
    subst hg
    exact ⟨cur.toList, hh⟩
theorem own_prefix {x : World} {B : Nat} {e : TypeId} {st : Nat} {g n k cap : Nat} {xs ys : List Value} (h : x.ownsRow B e st (.slice (some ⟨g, 0, none⟩) (n + k) cap) (n + k) (xs ++ ys)) (hl : xs.length = n * st) : x.ownsRow B e st (.slice (some ⟨g, 0, none⟩) n cap) n xs := by
  refine ⟨hl, .inr ?_⟩
  rcases h.2 with ⟨hv, _⟩ | ⟨g', cap', cur, hv, hB, hg, h1, h2, h3, h4⟩
  · cases hv
  · cases hv
    refine ⟨g, cap, cur, rfl, hB, hg, by omega, h2, h3, ?_⟩
    have := congrArg (List.take (n * st)) h4
    rw [List.take_take, Nat.min_eq_left (Nat.mul_le_mul_right _ (Nat.le_add_right n k))] at this
    rw [this, List.take_append_of_le_length (by omega), List.take_of_length_le (by omega)]
def mcs (k : Int) : List Value := [.int .u32 k, .bool false, .int .i64 0, .bool false, .bool false]
def mrep (n : Nat) (k : Int) : List Value := (List.replicate n (mcs k)).flatten
theorem mrep_len (n : Nat) (k : Int) : (mrep n k).length = n * 5 := by simp [mrep, mcs]
theorem mrep_succ (n : Nat) (k : Int) : mrep (n + 1) k = mrep n k ++ mcs k := by
  unfold mrep
  rw [List.replicate_succ', List.flatten_append]
  simp
structure Hd where
  vl : Value
  vm : Value
  n : Nat
  a : Int
def Hd.cs (h : Hd) : List Value := h.vl :: h.vm :: mcs h.a
def hcs (H : List Hd) : List Value := H.flatMap Hd.cs
structure Hd.ok (w : World) (B : Nat) (h : Hd) : Prop where
  l : w.ownsRow B 55 5 h.vl h.n (mrep h.n h.a)
  m : w.ownsRow B 55 5 h.vm (h.n + 1) (mrep (h.n + 1) h.a)
theorem Hd.ok.keep {x x' : World} {B : Nat} {h : Hd} {G : List Nat} (k : h.ok x B) (hb : ButL G x x') (h1 : ∀ g, h.vl.ownBlock = some g → g ∉ G) (h2 : ∀ g, h.vm.ownBlock = some g → g ∉ G) : h.ok x' B := ⟨own_keep k.l hb h1, own_keep k.m hb h2⟩
structure TS (W w : World) (p : Dp) (d : DS) (v6 : Value) (H : List Hd) : Prop where
  below : Below W.heap.size W w
  db : DB w p d
  ti : TI d
  pn : ∀ k ∈ p.all, W.heap.size ≤ k
  book : w.ownsRow W.heap.size 79 7 v6 H.length (hcs H)
  each : ∀ h ∈ H, h.ok w W.heap.size
theorem db_off {w : World} {p : Dp} {d : DS} (h : DB w p d) {B : Nat} {e : TypeId} {st : Nat} {v : Value} {n : Nat} {xs : List Value} (ho : w.ownsRow B e st v n xs) (he : e = 55 ∨ e = 79) : ∀ g, v.ownBlock = some g → g ∉ p.f.w := fun g hg hm => by
  obtain ⟨cs, hc⟩ := own_cty ho hg
  have := h.mem.ty_w g (Fp.w_all hm) e cs hc
  rcases he with rfl | rfl <;> simp at this
theorem TS.on {W w w' : World} {p : Dp} {d : DS} {v6 : Value} {H : List Hd} (h : TS W w p d v6 H) (hb : Below w.heap.size w w') : TS W w' p d v6 H :=
  ⟨below_on h.below hb, h.db.on hb, h.ti, h.pn, own_keep h.book (G := []) (.of hb) (by simp), fun x hx => (h.each x hx).keep (G := []) (.of hb) (by simp) (by simp)⟩
theorem TS.step {W w w' : World} {p : Dp} {d d' : DS} {v6 : Value} {H : List Hd} (h : TS W w p d v6 H) (hd : DB w' p d') (hi : TI d') (hb : ButL p.f.w w w') : TS W w' p d' v6 H :=
  ⟨h.below.trans (hb.below (fun k hk => h.pn k (by unfold Dp.all; simp [Fp.w_all hk])) h.below.size), hd, hi, h.pn, own_keep h.book hb (db_off h.db h.book (.inr rfl)), fun x hx => (h.each x hx).keep hb (db_off h.db (h.each x hx).l (.inl rfl)) (db_off h.db (h.each x hx).m (.inl rfl))⟩
structure TR (W w : World) (p : Dp) (d : DS) (v6 : Value) (H : List Hd) (vF vL : Value) (n : Nat) (xF xL : List Value) : Prop where
  ts : TS W w p d v6 H
  F : w.ownsRow W.heap.size 55 5 vF n xF
  L : w.ownsRow W.heap.size 55 5 vL n xL
  ap : ∀ g, vF.ownBlock = some g → vL.ownBlock ≠ some g
  hF : ∀ g, vF.ownBlock = some g → ∀ h ∈ H, h.vl.ownBlock ≠ some g ∧ h.vm.ownBlock ≠ some g
  hL : ∀ g, vL.ownBlock = some g → ∀ h ∈ H, h.vl.ownBlock ≠ some g ∧ h.vm.ownBlock ≠ some g
theorem TR.on {W w w' : World} {p : Dp} {d : DS} {v6 : Value} {H : List Hd} {vF vL : Value} {n : Nat} {xF xL : List Value} (h : TR W w p d v6 H vF vL n xF xL) (hb : Below w.heap.size w w') : TR W w' p d v6 H vF vL n xF xL :=
  ⟨h.ts.on hb, own_keep h.F (G := []) (.of hb) (by simp), own_keep h.L (G := []) (.of hb) (by simp), h.ap, h.hF, h.hL⟩
theorem own_lt2 {x : World} {B : Nat} {e : TypeId} {st : Nat} {v : Value} {n : Nat} {xs : List Value} (h : x.ownsRow B e st v n xs) {g : Nat} (hg : v.ownBlock = some g) : B ≤ g ∧ g < x.heap.size := h.lt g hg
theorem TS.wr {W w w' : World} {p : Dp} {d : DS} {v6 : Value} {H : List Hd} (h : TS W w p d v6 H) {v : Value} {n : Nat} {xs : List Value} (ho : w.ownsRow W.heap.size 55 5 v n xs) {g : Nat} (hg : v.ownBlock = some g) (hH : ∀ h ∈ H, h.vl.ownBlock ≠ some g ∧ h.vm.ownBlock ≠ some g) (hb : ButL [g] w w') : TS W w' p d v6 H := by
  obtain ⟨cs, hc⟩ := own_cty ho hg
  have hdb : ∀ k ∈ p.all, k ∉ [g] := fun k hk hm => by
    rw [List.mem_singleton] at hm
    subst hm
    simp only [Dp.all, List.mem_cons] at hk
    rcases hk with rfl | rfl | hk
    · exact absurd (hc.ty h.db.cel) (by decide)
    · exact absurd (hc.ty h.db.wds) (by decide)
    · have := h.db.mem.ty_w k hk 55 cs hc
      simp at this
  refine ⟨h.below.trans (hb.below (fun k hk => by rw [List.mem_singleton] at hk; subst hk; exact (own_lt2 ho hg).1) h.below.size), h.db.frame hb hdb, h.ti, h.pn, own_keep h.book hb (fun k hk hm => ?_), fun x hx => (h.each x hx).keep hb (fun k hk hm => ?_) (fun k hk hm => ?_)⟩
  · rw [List.mem_singleton] at hm
    subst hm
    obtain ⟨_, hb2⟩ := own_cty h.book hk
    exact absurd (hb2.ty hc) (by decide)
  · rw [List.mem_singleton] at hm
    subst hm
    exact (hH x hx).1 hk
  · rw [List.mem_singleton] at hm
    subst hm
    exact (hH x hx).2 hk
end Go.Proofs.Ytgbpbfnpeeciaaa
namespace Go.Proofs.Ytgbpbfnpeeciaaa
open Go.RowKit
set_option maxRecDepth 100000
abbrev Xr := Value × Nat × List Value
structure T1 (W w : World) (p : Dp) (d : DS) (v6 : Value) (H : List Hd) (v : Value) (n : Nat) (xs : List Value) (X : List Xr) : Prop where
  ts : TS W w p d v6 H
  R : w.ownsRow W.heap.size 55 5 v n xs
  hR : ∀ g, v.ownBlock = some g → ∀ h ∈ H, h.vl.ownBlock ≠ some g ∧ h.vm.ownBlock ≠ some g
  ex : ∀ x ∈ X, w.ownsRow W.heap.size 55 5 x.1 x.2.1 x.2.2
  hx : ∀ x ∈ X, ∀ g, x.1.ownBlock = some g → v.ownBlock ≠ some g ∧ ∀ h ∈ H, h.vl.ownBlock ≠ some g ∧ h.vm.ownBlock ≠ some g
variable {W w w' : World} {p : Dp} {d : DS} {v6 v v' : Value} {H : List Hd} {n : Nat} {xs : List Value} {X : List Xr} {k : Int}
theorem T1.on (h : T1 W w p d v6 H v n xs X) (hb : Below w.heap.size w w') : T1 W w' p d v6 H v n xs X :=
  ⟨h.ts.on hb, own_keep h.R (G := []) (.of hb) (by simp), h.hR, fun x hx => own_keep (h.ex x hx) (G := []) (.of hb) (by simp), h.hx⟩
theorem T1.wr (h : T1 W w p d v6 H v n xs X) {g : Nat} (hg : v.ownBlock = some g) (hb : ButL [g] w w') {ys : List Value} (ho : w'.ownsRow W.heap.size 55 5 v n ys) : T1 W w' p d v6 H v n ys X :=
  ⟨h.ts.wr h.R hg (h.hR g hg) hb, ho, h.hR, fun x hx => own_keep (h.ex x hx) hb (fun i hi hm => by
    rw [List.mem_singleton] at hm
    subst hm
    exact (h.hx x hx i hi).1 hg), h.hx⟩
structure T2 (W w : World) (p : Dp) (d : DS) (v6 : Value) (H : List Hd) (v vM : Value) (n : Nat) (k : Int) (X : List Xr) : Prop where
  t : T1 W w p d v6 H v n (mrep n k) X
  M : w.ownsRow W.heap.size 55 5 vM (n + 1) (mrep (n + 1) k)
  hM : ∀ x ∈ X, ∀ g, x.1.ownBlock = some g → vM.ownBlock ≠ some g
theorem T2.on {vM : Value} (h : T2 W w p d v6 H v vM n k X) (hb : Below w.heap.size w w') : T2 W w' p d v6 H v vM n k X := ⟨h.t.on hb, own_keep h.M (G := []) (.of hb) (by simp), h.hM⟩
theorem T1.more (h : T1 W w p d v6 H v n (mrep n k) X)
    (ha : (∃ g cap, v = .slice (some ⟨g, 0, none⟩) n cap ∧ v' = .slice (some ⟨g, 0, none⟩) (n + 1) cap ∧ w'.ownsRow W.heap.size 55 5 v' (n + 1) (mrep n k ++ mcs k) ∧ ButL [g] w w') ∨ (w'.ownsRow w.heap.size 55 5 v' (n + 1) (mrep n k ++ mcs k) ∧ Below w.heap.size w w')) : T2 W w' p d v6 H v v' n k X := by
  rcases ha with ⟨g, cap, rfl, rfl, ho, hb⟩ | ⟨ho, hb⟩
  · have hp := own_prefix (k := 1) ho (mrep_len n k)
    rw [← mrep_succ] at ho
    exact ⟨h.wr rfl hb hp, ho, fun x hx g' hg' => (h.hx x hx g' hg').1⟩
  · rw [← mrep_succ] at ho
    refine ⟨h.on hb, own_mono ho h.ts.below.size, fun x hx g' hg' hm => ?_⟩
    have h1 := (own_lt2 (h.ex x hx) hg').2
    have h2 := (own_lt2 ho hm).1
    omega
structure T3 (W w : World) (p : Dp) (d : DS) (v6 : Value) (H : List Hd) (X : List Xr) : Prop where
  ts : TS W w p d v6 H
  ex : ∀ x ∈ X, w.ownsRow W.heap.size 55 5 x.1 x.2.1 x.2.2
  hx : ∀ x ∈ X, ∀ g, x.1.ownBlock = some g → ∀ h ∈ H, h.vl.ownBlock ≠ some g ∧ h.vm.ownBlock ≠ some g
theorem T3.on (h : T3 W w p d v6 H X) (hb : Below w.heap.size w w') : T3 W w' p d v6 H X := ⟨h.ts.on hb, fun x hx => own_keep (h.ex x hx) (G := []) (.of hb) (by simp), h.hx⟩
theorem T3.one (h : T3 W w p d v6 H [(v, n, xs)]) : T1 W w p d v6 H v n xs [] := ⟨h.ts, h.ex _ (.head _), h.hx _ (.head _), (fun _ h => by cases h), (fun _ h => by cases h)⟩
theorem T2.book {vM : Value} (h : T2 W w p d v6 H v vM n k X)
    (ha : (∃ g cap, v6 = .slice (some ⟨g, 0, none⟩) H.length cap ∧ v' = .slice (some ⟨g, 0, none⟩) (H.length + 1) cap ∧ w'.ownsRow W.heap.size 79 7 v' (H.length + 1) (hcs H ++ Hd.cs ⟨v, vM, n, k⟩) ∧ ButL [g] w w') ∨ (w'.ownsRow w.heap.size 79 7 v' (H.length + 1) (hcs H ++ Hd.cs ⟨v, vM, n, k⟩) ∧ Below w.heap.size w w')) : T3 W w' p d v' (H ++ [⟨v, vM, n, k⟩]) X := by
  have hs : hcs H ++ Hd.cs ⟨v, vM, n, k⟩ = hcs (H ++ [⟨v, vM, n, k⟩]) := by simp [hcs]
  have hn : (H ++ [(⟨v, vM, n, k⟩ : Hd)]).length = H.length + 1 := by simp
  have hap : ∀ x ∈ X, ∀ g, x.1.ownBlock = some g → ∀ h' ∈ H ++ [(⟨v, vM, n, k⟩ : Hd)], h'.vl.ownBlock ≠ some g ∧ h'.vm.ownBlock ≠ some g := fun x hx g hg h' hh => by
    rcases List.mem_append.1 hh with hh | hh
    · exact (h.t.hx x hx g hg).2 h' hh
    · obtain rfl := List.mem_singleton.1 hh
      exact ⟨(h.t.hx x hx g hg).1, h.hM x hx g hg⟩
  rcases ha with ⟨g, cap, rfl, rfl, ho, hb⟩ | ⟨ho, hb⟩
  · obtain ⟨cs, hc⟩ := own_cty h.t.ts.book (g := g) rfl
    have off : ∀ {u : Value} {m : Nat} {ys : List Value}, w.ownsRow W.heap.size 55 5 u m ys → ∀ i, u.ownBlock = some i → i ∉ [g] := fun hu i hi hm => by
      rw [List.mem_singleton] at hm
      subst hm
      obtain ⟨_, hc2⟩ := own_cty hu hi
      exact absurd (hc2.ty hc) (by decide)
    have hdb : ∀ j ∈ p.all, j ∉ [g] := fun j hj hm => by
      rw [List.mem_singleton] at hm
      subst hm
      simp only [Dp.all, List.mem_cons] at hj
      rcases hj with rfl | rfl | hj
      · exact absurd (hc.ty h.t.ts.db.cel) (by decide)
      · exact absurd (hc.ty h.t.ts.db.wds) (by decide)
      · have := h.t.ts.db.mem.ty_w j hj 79 cs hc
        simp at this
    refine ⟨⟨h.t.ts.below.trans (hb.below (fun j hj => by rw [List.mem_singleton] at hj; subst hj; exact (own_lt2 h.t.ts.book rfl).1) h.t.ts.below.size), h.t.ts.db.frame hb hdb, h.t.ts.ti, h.t.ts.pn, by rw [hn, ← hs]; exact ho, fun x hx => ?_⟩, fun x hx => own_keep (h.t.ex x hx) hb (off (h.t.ex x hx)), hap⟩
    rcases List.mem_append.1 hx with hx | hx
    · exact (h.t.ts.each x hx).keep hb (off (h.t.ts.each x hx).l) (off (h.t.ts.each x hx).m)
    · obtain rfl := List.mem_singleton.1 hx
      exact ⟨own_keep h.t.R hb (off h.t.R), own_keep h.M hb (off h.M)⟩
  · have h' := h.on hb
    refine ⟨⟨h'.t.ts.below, h'.t.ts.db, h'.t.ts.ti, h'.t.ts.pn, by rw [hn, ← hs]; exact own_mono ho h.t.ts.below.size, fun x hx => ?_⟩, h'.t.ex, hap⟩
    rcases List.mem_append.1 hx with hx | hx
    · exact h'.t.ts.each x hx
    · obtain rfl := List.mem_singleton.1 hx
      exact ⟨h'.t.R, h'.M⟩
def filM (k : Int) (xs : List Value) (j : Nat) : List Value := mrep j k ++ xs.drop (j * 5)
theorem filM_0 (k : Int) (xs : List Value) : filM k xs 0 = xs := by simp [filM, mrep]
theorem filM_all (k : Int) (xs : List Value) (n : Nat) (h : xs.length = n * 5) : filM k xs n = mrep n k := by
  unfold filM
  rw [List.drop_eq_nil_of_le (by omega), List.append_nil]
theorem put5 (C : List Value) (k : Int) (xs : List Value) (j N : Nat) (hj : j * 5 + 5 ≤ N) (_hN : N ≤ C.length) (ht : C.take N = filM k xs j) : (C.take (j * 5) ++ mcs k ++ C.drop (j * 5 + 5)).take N = filM k xs (j + 1) := by
  have h1 : C.take (j * 5) = mrep j k := by
    have := congrArg (List.take (j * 5)) ht
    rw [List.take_take, Nat.min_eq_left (by omega)] at this
    rw [this]
    unfold filM
    rw [List.take_append_of_le_length (by rw [mrep_len]; omega), List.take_of_length_le (by rw [mrep_len]; omega)]
  have h2 : (C.drop (j * 5 + 5)).take (N - (j * 5 + 5)) = xs.drop ((j + 1) * 5) := by
    have := congrArg (List.drop (j * 5 + 5)) ht
    rw [List.drop_take] at this
    rw [this]
    unfold filM
    rw [List.drop_append, mrep_len, List.drop_eq_nil_of_le (by rw [mrep_len]; omega), List.nil_append, List.drop_drop]
    congr 1
    omega
  rw [h1, List.take_append, List.take_of_length_le (by simp [mrep_len, mcs]; omega)]
  rw [show (mrep j k ++ mcs k).length = j * 5 + 5 by simp [mrep_len, mcs], h2]
  unfold filM
  rw [mrep_succ]
theorem wpList_store_mark {ops : Array Oper} {rest : List Oper} {o : Oper} {a : Act} {w : World} {Q : Exit → Act → World → Prop} (hgd : o.guard = none) (x y : Operand) (ho : o.op = .store 55 x y)
    (g j : Nat) (k : Int) (hx : a.eval x = .pointer (some ⟨g, j * 5, none⟩)) (hy : a.eval y = .agg (mcs k).toArray) {B n cap : Nat} {xs : List Value} (hown : w.ownsRow B 55 5 (.slice (some ⟨g, 0, none⟩) n cap) n (filM k xs j)) (hj : j < n)
    (h : ∀ w', w'.ownsRow B 55 5 (.slice (some ⟨g, 0, none⟩) n cap) n (filM k xs (j + 1)) → ButL [g] w w' → wpList Try.prog ops Q rest (a.put o.dst undef) w') : wpList Try.prog ops Q (o :: rest) a w := by
  rcases hown.2 with ⟨hv, _⟩ | ⟨g', cap', cur, hv, hB, hg, h1, h2, h3, h4⟩
  · cases hv
  · cases hv
    have hle : j * 5 + 5 ≤ n * 5 := by omega
    have hcl : n * 5 ≤ cur.toList.length := by rw [Array.length_toList, h3]; omega
    have hst := run_storeCells_at (P := Try.prog) g (j * 5) 55 (mcs k) 0 cur w hg (by have : cur.size = cap * 5 := h3; simp [mcs]; omega) (fun u hu => by simp only [mcs, List.mem_cons, List.not_mem_nil, or_false] at hu; rcases hu with rfl | rfl | rfl | rfl | rfl <;> rfl)
    simp only [Nat.add_zero, show (mcs k).length = 5 from rfl] at hst
    obtain ⟨i, hi, his⟩ := Option.map_eq_some_iff.1 size55
    have hrun : (storeVar 55 ⟨g, j * 5, none⟩ (.agg (mcs k).toArray)).run Try.prog w = .ok () (w.setRow g (cur.toList.take (j * 5) ++ mcs k ++ cur.toList.drop (j * 5 + 5)).toArray) := by
      have hl5 : (mcs k).length = i.size := his.symm
      simp [storeVar, sizeOf, typeInfo, hi, Value.cells, hl5, hst]
    have hp := put5 cur.toList k xs j (n * 5) hle hcl h4
    have hnew : (w.setRow g (cur.toList.take (j * 5) ++ mcs k ++ cur.toList.drop (j * 5 + 5)).toArray).ownsRow B 55 5 (.slice (some ⟨g, 0, none⟩) n cap) n (filM k xs (j + 1)) := by
      refine ⟨?_, .inr ⟨g, cap, _, rfl, hB, setRow_heap w g _ _ 55 _ hg, h1, h2, ?_, hp⟩⟩
      · have := hown.1
        unfold filM at this ⊢
        rw [List.length_append, mrep_len, List.length_drop] at this ⊢
        omega
      · rw [List.size_toArray, List.length_append, List.length_append, List.length_take, List.length_drop, Array.length_toList, h3, show (mcs k).length = 5 from rfl]
        omega
    refine wpList_plain hgd fun K hK => ?_
    have := h _ hnew (.setRow _ _ _ (by simp))
    unfold Oper.wp execOp
    simp only [ho, hx, hy, Instr.storeAt, Instr.sureAddr, Sem.run_bind, Sem.run_pure, Result.andThen_ok, hrun]
    exact hK _ _ this
theorem TS.lists {w1 w2 : World} {c1 c2 : Int} {v1 v2 : Value} {A : List (Int × Mp)} (h : TS W w p d v6 H) (h1 : w1.ownsRow w.heap.size 55 5 v1 A.length (flat A)) (d1 : DB w1 p (d.wc c1)) (b1 : ButL p.f.w w w1) (h2 : w2.ownsRow w1.heap.size 55 5 v2 A.length (flat A)) (d2 : DB w2 p (d.wc c2)) (b2 : ButL p.f.w w1 w2) :
    T1 W w2 p (d.wc c2) v6 H v1 A.length (flat A) [(v2, A.length, flat A)] := by
  have t1 := h.step d1 (h.ti.wc c1) b1
  have t2 := t1.step d2 (h.ti.wc c2) b2
  have old : ∀ {B : Nat} {u : Value} {m : Nat} {ys : List Value} {g : Nat}, w.ownsRow B 55 5 u m ys → u.ownBlock = some g → g < w.heap.size := fun hu hg => (own_lt2 hu hg).2
  refine ⟨t2, own_mono (own_keep h1 b2 (db_off d1 h1 (.inl rfl))) h.below.size, fun g hg x hx => ?_, fun x hx => ?_, fun x hx g hg => ?_⟩
  · have := (own_lt2 h1 hg).1
    exact ⟨fun e => by have := old (h.each x hx).l e; omega, fun e => by have := old (h.each x hx).m e; omega⟩
  · obtain rfl := List.mem_singleton.1 hx
    exact own_mono h2 t1.below.size
  · obtain rfl := List.mem_singleton.1 hx
    have q1 := (own_lt2 h2 hg).1
    have q2 := b1.size
    exact ⟨fun e => by have := (own_lt2 h1 e).2; omega, fun y hy => ⟨fun e => by have := old (h.each y hy).l e; omega, fun e => by have := old (h.each y hy).m e; omega⟩⟩
end Go.Proofs.Ytgbpbfnpeeciaaa
namespace Go.Proofs.Ytgbpbfnpeeciaaa
open Go.RowKit
def pth : List Nat → Code → Code
  | 0 :: l, .seq a _ => pth l a
  | 1 :: l, .seq _ b => pth l b
  | 2 :: l, .block _ c => pth l c
  | 3 :: l, .loop c => pth l c
  | _, c => c
theorem pth_walk {body : Option Code} (l : List Nat) {code c' : Code} {Q : Exit → Act → World → Prop} {a : Act} {w : World} (h : body = some code) (h' : pth l code = c') (hw : Code.wp Try.prog c' Q a w) : Code.wp Try.prog (pth l (body.getD .skip)) Q a w := by
  subst h'
  rw [h]
  exact hw
def inner : List Nat := [1, 1, 1, 1, 0, 1, 2, 3, 1, 0, 2]
end Go.Proofs.Ytgbpbfnpeeciaaa
