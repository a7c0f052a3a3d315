import Derived.Test.YtncnogndopgknaaGreatDoorP22
namespace Go.Proofs.YtncnogndopgknaaGreatDoor
open Go.RowKit
namespace S
theorem between_lt {s : List UInt8} {lo hi : Int} {v : Nat} (h : between s lo hi = some v) : v < 4294967296 := by
  unfold between at h
  split at h
  · split at h
    · cases h; unfold u32; omega
    · cases h
  · cases h
theorem upTo_le {s : List UInt8} {m v : Nat} (h : upTo s m = some v) : v ≤ m := by
  unfold upTo at h
  split at h
  · split at h
    · cases h; assumption
    · cases h
  · cases h
theorem find1_lt {f : Nat → List UInt8} {lo : Nat} {s : List UInt8} : ∀ {hi k : Nat}, find1 f lo hi s = some k → k < hi := by
  intro hi
  induction hi with
  | zero => intro k hk; cases hk
  | succ m ih =>
    intro k hk
    unfold find1 at hk
    split at hk
    · rename_i k' hk'
      cases hk
      have := ih hk'
      omega
    · split at hk
      · cases hk; omega
      · cases hk
theorem readNumber_lt {l : Nat} {s : List UInt8} {v : Nat} (h : readNumber l s = some v) : v < 4294967296 ∧ (l = 110 → v ≤ 2048) := by
  unfold readNumber at h
  split at h
  · rename_i hl
    unfold register at h
    split at h
    · exact ⟨between_lt h, fun h0 => by omega⟩
    · cases h
  · split at h
    · rename_i hl
      have := find1_lt h
      exact ⟨by omega, fun h0 => by omega⟩
    · split at h
      · rename_i hl
        have := upTo_le h
        exact ⟨by omega, fun h0 => by omega⟩
      · split at h
        · rename_i hl
          exact ⟨between_lt h, fun h0 => by omega⟩
        · split at h
          · have := upTo_le h
            exact ⟨by omega, fun _ => this⟩
          · rename_i hl
            split at h
            · rename_i n hn
              cases h
              have := upTo_le hn
              exact ⟨by omega, fun h0 => absurd h0 hl⟩
            · exact ⟨between_lt h, fun h0 => absurd h0 hl⟩
theorem readOperand_ok {l : Nat} {w : T.Wd} {o : Opn} (h : readOperand l w = some o) : o.val < 4294967296 ∧ (l = 110 → o.val ≤ 2048) ∧ (o.lab ≠ [] → l = 111 ∨ l = 120) := by
  unfold readOperand at h
  split at h
  · cases h
  · split at h
    · rename_i hl
      cases h
      exact ⟨by show (0 : Nat) < _; decide, fun _ => Nat.zero_le _, fun _ => hl.1⟩
    · cases hr : readNumber l w.text with
      | none => rw [hr] at h; cases h
      | some v =>
        rw [hr] at h
        cases h
        exact ⟨(readNumber_lt hr).1, (readNumber_lt hr).2, fun h0 => absurd rfl h0⟩
theorem rdOps_ok {nc : Nat} : ∀ {L : List Nat} {rs : List T.Wd} {os : List Opn}, rdOps nc L rs = .inr os → os.length = L.length ∧ ∀ i (h : i < os.length) (h' : i < L.length), os[i].val < 4294967296 ∧ (L[i] = 110 → os[i].val ≤ 2048) ∧ (os[i].lab ≠ [] → L[i] = 111 ∨ L[i] = 120)
  | [], [], os, h => by cases h; exact ⟨rfl, fun i h => by simp at h⟩
  | [], _ :: _, os, h => by cases h
  | _ :: _, [], os, h => by cases h
  | l :: ls, w :: ws, os, h => by
    unfold rdOps at h
    split at h
    · cases h
    · rename_i o ho
      split at h
      · cases h
      · rename_i os' hos
        cases h
        have ih := rdOps_ok hos
        refine ⟨by simp [ih.1], fun i h h' => ?_⟩
        cases i with
        | zero => exact readOperand_ok ho
        | succ i => exact ih.2 i (by simpa using h) (by simpa using h')
theorem one_label {k : Kd} (hk : KOk k) : ∀ i j (hi : i < k.shape.length) (hj : j < k.shape.length), (k.shape[i].toNat = 111 ∨ k.shape[i].toNat = 120) → (k.shape[j].toNat = 111 ∨ k.shape[j].toNat = 120) → i = j := by
  have key : ∀ s : List UInt8, ((List.range s.length).all fun i => (List.range s.length).all fun j => !((s.getD i 0).toNat == 111 || (s.getD i 0).toNat == 120) || !((s.getD j 0).toNat == 111 || (s.getD j 0).toNat == 120) || i == j) = true →
      ∀ i j (hi : i < s.length) (hj : j < s.length), (s[i].toNat = 111 ∨ s[i].toNat = 120) → (s[j].toNat = 111 ∨ s[j].toNat = 120) → i = j := by
    intro s hs i j hi hj h1 h2
    have h3 := List.all_eq_true.1 (List.all_eq_true.1 hs i (List.mem_range.2 hi)) j (List.mem_range.2 hj)
    rw [List.getD_eq_getElem?_getD, List.getElem?_eq_getElem hi, List.getD_eq_getElem?_getD, List.getElem?_eq_getElem hj] at h3
    simp only [Option.getD_some, Bool.or_eq_true, Bool.not_eq_true', Bool.or_eq_false_iff, beq_eq_false_iff_ne, beq_iff_eq] at h3
    rcases h3 with (h3 | h3) | h3
    · exact absurd h1 (by simp [h3.1, h3.2])
    · exact absurd h2 (by simp [h3.1, h3.2])
    · exact h3
  rcases hk.four with ⟨_, e⟩ | ⟨_, e⟩ | ⟨_, e⟩ | ⟨_, _, _, e⟩
  · rw [e]; exact key _ (by decide)
  · rw [e]; exact key _ (by decide)
  · rw [e]; exact key _ (by decide)
  · have : ∀ n < 25, ((List.range (shapeT.getD n []).length).all fun i => (List.range (shapeT.getD n []).length).all fun j => !(((shapeT.getD n []).getD i 0).toNat == 111 || ((shapeT.getD n []).getD i 0).toNat == 120) || !(((shapeT.getD n []).getD j 0).toNat == 111 || ((shapeT.getD n []).getD j 0).toNat == 120) || i == j) = true := by decide +kernel
    rw [e]; exact key _ (this k.op hk.op)
theorem shape6 {k : Kd} (hk : KOk k) : k.shape.length ≤ 3 ∧ ∀ i (h : i < k.shape.length), letter6 k.shape[i].toNat := by
  rcases hk.four with ⟨_, e⟩ | ⟨_, e⟩ | ⟨_, e⟩ | ⟨_, _, _, e⟩
  · rw [e]; exact ⟨by decide, fun i h => by have : i = 0 := by simpa using h
                                            subst this; exact .inr (.inr (.inr (.inr (.inr (.inr (.inr (.inr rfl)))))))⟩
  · rw [e]; refine ⟨by decide, fun i h => ?_⟩
    match i, h with
    | 0, _ => exact .inl rfl
    | 1, _ => exact .inr (.inr (.inr (.inr (.inr (.inr (.inr (.inr rfl)))))))
  · rw [e]; exact ⟨by decide, fun i h => by have : i = 0 := by simpa using h
                                            subst this; exact .inr (.inr (.inr (.inr (.inr (.inr (.inr (.inl rfl)))))))⟩
  · rw [e]
    have := shape_ok k.op hk.op
    refine ⟨this.1, fun i h => ?_⟩
    rcases this.2 i h with h | h | h | h | h | h | h
    · exact .inl h
    · exact .inr (.inl h)
    · exact .inr (.inr (.inl h))
    · exact .inr (.inr (.inr (.inl h)))
    · exact .inr (.inr (.inr (.inr (.inl h))))
    · exact .inr (.inr (.inr (.inr (.inr (.inl h)))))
    · exact .inr (.inr (.inr (.inr (.inr (.inr (.inl h))))))
theorem os_ok {k : Kd} (hk : KOk k) {nc : Nat} {rs : List T.Wd} {os : List Opn} (h : rdOps nc (k.shape.map (·.toNat)) rs = .inr os) : OsOk k os ∧ ∀ i j (hi : i < os.length) (hj : j < os.length), os[i].lab ≠ [] → os[j].lab ≠ [] → i = j := by
  obtain ⟨h1, h2⟩ := rdOps_ok h
  rw [List.length_map] at h1
  have h3 : ∀ i (h : i < os.length), os[i].val < 4294967296 ∧ (k.shape[i].toNat = 110 → os[i].val ≤ 2048) ∧ (os[i].lab ≠ [] → k.shape[i].toNat = 111 ∨ k.shape[i].toNat = 120) := fun i hi => by
    have := h2 i hi (by rw [List.length_map]; omega)
    simpa using this
  refine ⟨⟨h1.symm, fun o ho => ?_, fun hz o ho => ?_⟩, fun i j hi hj a b => one_label hk i j (by omega) (by omega) ((h3 i hi).2.2 a) ((h3 j hj).2.2 b)⟩
  · obtain ⟨i, hi, rfl⟩ := List.getElem_of_mem ho
    exact (h3 i hi).1
  · obtain ⟨i, hi, rfl⟩ := List.getElem_of_mem ho
    refine (h3 i hi).2.1 ?_
    rcases hk.four with ⟨e0, _⟩ | ⟨e0, _⟩ | ⟨_, e⟩ | ⟨_, _, e0, _⟩
    · rw [e0] at hz; exact absurd hz (by decide)
    · rw [e0] at hz; exact absurd hz (by decide)
    · have h1' : os.length = 1 := by rw [h1, e]; rfl
      have : i = 0 := by omega
      subst this
      simp [e]
    · exact absurd hz e0
end S
end Go.Proofs.YtncnogndopgknaaGreatDoor
namespace Go.Proofs.YtncnogndopgknaaGreatDoor
open Go.RowKit
theorem u32s_append (a b : List Nat) : u32s (a ++ b) = u32s a ++ u32s b := by simp [u32s]
theorem wpList_append_u32 {P : Program} {w : World} {ops : Array Oper} {rest : List Oper} {o : Oper} {a : Act} {Q : Exit → Act → World → Prop} (hgd : o.guard = none) (s x : Operand) (t : TypeId)
    (ho : o.op = .call { callee := .builtin .append, args := #[s, x], argTypes := #[t, t] }) (i : TypeInfo) (ht : P.underlying t = some (.slice 22)) (hi : P.info? 22 = some i) (hz : i.zero = some (.int .u32 0)) (hsize : i.size = 1) (hby : i.bytes = 4)
    (B : Nat) (hB : B ≤ w.heap.size) (v : Value) (l : List Nat) (hs : a.eval s = v) (H : w.ownsRow B 22 1 v l.length (u32s l)) (g c : Nat) (m : List Nat) (hx : a.eval x = .slice (some ⟨g, 0, none⟩) m.length c) (hc : Cel w g 22 (u32s m)) (h63 : l.length + m.length ≤ 1000000)
    (h : ∀ v' w', w'.ownsRow B 22 1 v' (l.length + m.length) (u32s (l ++ m)) → w.grownBy w' v.ownBlock → wpList P ops Q rest (a.put o.dst v') w') : wpList P ops Q (o :: rest) a w := by
  obtain ⟨v', w', hr, h1, h2, _⟩ := run_append_own (P := P) w B t o.type 22 i (.int .u32 0) 1 4 ht hi hz hsize hby rfl (by decide) v l.length _ H ⟨g, 0, none⟩ m.length c (u32s m) (by simp [u32s]) (fun j u hj => by rw [Addr.add_mid, Nat.zero_add, hc.cell j]; exact hj) (by
    intro v hv
    obtain ⟨u, _, rfl⟩ := List.mem_map.1 hv
    rfl) (by unfold maxLen; omega) (by omega) hB
  refine wpList_plain hgd fun K hK => ?_
  unfold Oper.wp execOp
  simp only [ho, resolve, invoke, builtin, Sem.run_bind, Sem.run_pure, Result.andThen_ok, List.map_toArray, List.map_cons, List.map_nil, hs, hx, hr]
  exact hK _ _ (h _ _ (by rw [u32s_append]; exact h1) h2)
theorem Tryz.info111 : (Tryz.prog.info? 111).map (fun i => (i.zero, i.size, i.bytes)) = some (some .nilFunc, 1, 8) := by kernel_rfl
theorem wp_append_fn {P : Program} {w : World} {o : Oper} {a : Act} {K : Act → World → Prop} {Q : Exit → Act → World → Prop} (s x : Operand) (t : TypeId)
    (ho : o.op = .call { callee := .builtin .append, args := #[s, x], argTypes := #[t, t] }) (i : TypeInfo) (ht : P.underlying t = some (.slice 111)) (hi : P.info? 111 = some i) (hz : i.zero = some .nilFunc) (hsize : i.size = 1) (hby : i.bytes = 8)
    (B : Nat) (hB : B ≤ w.heap.size) (v : Value) (l : List Fc) (n : Nat) (hs : a.eval s = v) (H : w.ownsRow B 111 1 v n (l.map fcV)) (ad : Addr) (c : Nat) (m : Fc) (hx : a.eval x = .slice (some ad) 1 c) (hc : w.cell? ad = some (fcV m)) (h63 : n ≤ 1000000)
    (h : ∀ v' w', w'.ownsRow B 111 1 v' (n + 1) ((l ++ [m]).map fcV) → w.grownBy w' v.ownBlock → K (a.put o.dst v') w') : o.wp P a w K Q := by
  obtain ⟨v', w', hr, h1, h2, _⟩ := run_append_own (P := P) w B t o.type 111 i _ 1 8 ht hi hz hsize hby rfl (by decide) v n _ H ad 1 c [fcV m] rfl (fun j u hj => by
    cases j with
    | zero => simp at hj; subst hj; simpa [Addr.add] using hc
    | succ j => simp at hj) (by intro u hu; rw [List.mem_singleton.1 hu]; rfl) (by unfold maxLen; omega) (by omega) hB
  unfold Oper.wp execOp
  simp only [ho, resolve, invoke, builtin, Sem.run_bind, Sem.run_pure, Result.andThen_ok, List.map_toArray, List.map_cons, List.map_nil, hs, hx, hr]
  exact h _ _ (by rw [List.map_append]; exact h1) h2
theorem PS.more {W w w2 : World} {g gm base line : Nat} {st : S.St} {fs : List Fc} {vw vl vf vw' : Value} (h : PS W w g gm base line st fs vw vl vf) (xs : List Nat) (hr : st.ws.length + xs.length ≤ 2048)
    (ho : w2.ownsRow W.heap.size 22 1 vw' (st.ws.length + xs.length) (u32s (st.ws ++ xs))) (hg : w.grownBy w2 vw.ownBlock) : PS W (w2.setCell ⟨g, 2, none⟩ vw') g gm base line { st with ws := st.ws ++ xs } fs vw' vl vf := by
  have kt : ∀ e, e ≠ 22 → KT e w w2 := fun e he => KT.grown h.ws hg he
  have cel3 := h.cel.kt (kt 77 (by decide))
  have kt2 : ∀ e, e ≠ 22 → e ≠ 77 → KT e w (w2.setCell ⟨g, 2, none⟩ vw') := fun e he he2 => KT.trans (kt e he) (KT.setCell cel3 he2 2 _)
  have b3 : Below W.heap.size W w2 := h.below.grown hg h.below.size (fun g' hg' => (h.ws.lt g' hg').1)
  refine ⟨b3.setCell (p := ⟨g, 2, none⟩) h.hg _, h.hg, h.hm, cel3.setCell 2 _, ?_, own_kt h.lb (kt2 43 (by decide) (by decide)), own_kt h.lt (kt2 111 (by decide) (by decide)), map_setCell (map_grown h.map h.ws hg) cel3 2 _, h.len, fun i a b => (h.clos i a b).kt (kt2 _ (by decide) (by decide)) (kt2 _ (by decide) (by decide)) (kt2 _ (by decide) (by decide)) (kt2 _ (by decide) (by decide)) (kt2 _ (by decide) (by decide)), h.nodup, h.rows, by show (st.ws ++ xs).length ≤ 2048; rw [List.length_append]; exact hr, h.places⟩
  show (w2.setCell ⟨g, 2, none⟩ vw').ownsRow W.heap.size 22 1 vw' (st.ws ++ xs).length (u32s (st.ws ++ xs))
  rw [List.length_append]
  exact own_kt ho (KT.setCell cel3 (by decide) 2 _)
theorem PS.later {W w w2 : World} {g gm base line : Nat} {st : S.St} {fs : List Fc} {vw vl vf vf' : Value} (h : PS W w g gm base line st fs vw vl vf) (d : Fc) (t : S.Lt) (hc : ClosAt w g d t) (hnew : d.gO ∉ fs.map (·.gO)) (hgO : W.heap.size ≤ d.gO)
    (ho : w2.ownsRow W.heap.size 111 1 vf' (st.lat.length + 1) ((fs ++ [d]).map fcV)) (hg : w.grownBy w2 vf.ownBlock) : PS W (w2.setCell ⟨g, 5, none⟩ vf') g gm base line { st with lat := st.lat ++ [t] } (fs ++ [d]) vw vl vf' := by
  have kt : ∀ e, e ≠ 111 → KT e w w2 := fun e he => KT.grown h.lt hg he
  have cel3 := h.cel.kt (kt 77 (by decide))
  have kt2 : ∀ e, e ≠ 111 → e ≠ 77 → KT e w (w2.setCell ⟨g, 5, none⟩ vf') := fun e he he2 => KT.trans (kt e he) (KT.setCell cel3 he2 5 _)
  have b3 : Below W.heap.size W w2 := h.below.grown hg h.below.size (fun g' hg' => (h.lt.lt g' hg').1)
  have hcl : ∀ (d : Fc) (t : S.Lt), ClosAt w g d t → ClosAt (w2.setCell ⟨g, 5, none⟩ vf') g d t := fun d t hc => hc.kt (kt2 _ (by decide) (by decide)) (kt2 _ (by decide) (by decide)) (kt2 _ (by decide) (by decide)) (kt2 _ (by decide) (by decide)) (kt2 _ (by decide) (by decide))
  refine ⟨b3.setCell (p := ⟨g, 5, none⟩) h.hg _, h.hg, h.hm, cel3.setCell 5 _, own_kt h.ws (kt2 22 (by decide) (by decide)), own_kt h.lb (kt2 43 (by decide) (by decide)), ?_, map_setCell (map_grown h.map h.lt hg) cel3 5 _, by simp [h.len], fun i a b => ?_, ?_, fun x hx => ?_, h.room, h.places⟩
  · show (w2.setCell ⟨g, 5, none⟩ vf').ownsRow W.heap.size 111 1 vf' (st.lat ++ [t]).length ((fs ++ [d]).map fcV)
    rw [List.length_append]
    exact own_kt ho (KT.setCell cel3 (by decide) 5 _)
  · have a' : i < (st.lat ++ [t]).length := a
    show ClosAt _ g (fs ++ [d])[i] (st.lat ++ [t])[i]
    by_cases hi : i < st.lat.length
    · rw [List.getElem_append_left (by rw [h.len]; exact hi), List.getElem_append_left hi]
      exact hcl _ _ (h.clos i hi (by rw [h.len]; exact hi))
    · have hi2 : i = st.lat.length := by simp at a'; omega
      subst hi2
      have e1 : (fs ++ [d])[st.lat.length]'b = d := by
        rw [List.getElem_append_right (by rw [h.len]; exact Nat.le_refl _)]
        simp [h.len]
      have e2 : (st.lat ++ [t])[st.lat.length]'a' = t := by simp
      rw [e1, e2]
      exact hcl _ _ hc
  · rw [List.map_append, List.nodup_append]
    refine ⟨h.nodup, by simp, fun x hx y hy => ?_⟩
    simp at hy
    subst hy
    intro hxy
    exact hnew (hxy ▸ hx)
  · rcases List.mem_append.1 hx with hx | hx
    · exact h.rows x hx
    · rw [List.mem_singleton.1 hx]; exact hgO
end Go.Proofs.YtncnogndopgknaaGreatDoor
