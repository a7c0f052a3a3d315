import Derived.Test.YtbpdmkohihgnjaaDoorP06
import Derived.WalkMore
import Derived.WalkKit
import Derived.Laws.BitsAllLaws
namespace Go.Proofs.YtbpdmkohihgnjaaDoor.L
open Go.RowKit

theorem hid {p : Prop} (h : p) : Hid p := h
def brk (p : Nat) : Ending := .panicked [{ v := .iface 214 (.int .i64 (p : Int)), recovered := false }]
def UnqPost (W : World) (k : Nat) (r : Nat ⊕ (List UInt8 × Nat)) (e : Ending) (W' : World) : Prop :=
  match r with
  | .inl x => e = brk (k + 1 + x) ∧ Below W.heap.size W W'
  | .inr (b, n) => ∃ v, e = .returned (.tuple #[v, .int .i64 ((k + 1 + n : Nat) : Int)]) ∧ HB W W' v b
theorem UnqPost.bad {W W' : World} {k x p : Nat} {r : Nat ⊕ (List UInt8 × Nat)} (hr : r = .inl x) (hp : p = k + 1 + x) (hb : Below W.heap.size W W') : UnqPost W k r (.panicked [{ v := .iface 214 (.int .i64 (p : Int)), recovered := false }]) W' := by
  subst hr hp; exact ⟨rfl, hb⟩
theorem UnqPost.good {W W' : World} {k n : Nat} {p : Int} {r : Nat ⊕ (List UInt8 × Nat)} {b : List UInt8} {v : Value} (hr : r = .inr (b, n)) (hp : p = ((k + 1 + n : Nat) : Int)) (hb : HB W W' v b) : UnqPost W k r (.returned (.tuple #[v, .int .i64 p])) W' := by
  subst hr hp; exact ⟨_, rfl, hb⟩

set_option maxHeartbeats 1000000 in
theorem unquoted_any (W : World) (s : ByteArray) (k : Nat) (hs : s.size ≤ 1000000000) (hk : k < s.size) :
    Calls Tryd.prog 137 #[.string s, .int .i64 (k : Int)] W fun e W' => UnqPost W k (T.unq (s.data.toList.drop (k + 1))) e W' := by
  obtain ⟨i0, hi, hz0, hz1, hz2⟩ := info_parts Tryd.info5
  generalize hr0 : T.unq (s.data.toList.drop (k + 1)) = r0
  have b1 : (k : Int) < (s.size : Int) := by omega
  have b2 : (s.size : Int) ≤ 1000000000 := by omega
  have HR : Hid (T.unq (s.data.toList.drop (k + 1)) = r0) := hr0
  clear hr0
  go_enter Tryd.func137, Tryd.ntmps137
  go_wp2
  go_step3
  go_wp2
  go_step3
  go_wp2
  go_loopw [1, 4, 6] (fun i v _ wr => ∃ (p : Nat) (l : List UInt8), k + 1 ≤ p ∧ p ≤ s.size ∧ i = .int .i64 p ∧ l.length ≤ p ∧ HB W wr v l ∧ Hid (r0 = T.sp (p - (k + 1)) l (T.unq (s.data.toList.drop p)))) (fun i _ _ _ => s.size - (intOf i).toNat)
  case atStart => exact ⟨k + 1, [], Nat.le_refl _, by omega, by go_num, Nat.zero_le _, HB.start W, by rw [Nat.sub_self, T.sp_zero]; exact HR.out.symm⟩
  case round =>
    obtain ⟨p, l, hp1, hp2, rfl, hl, F, R⟩ := hrel
    have c1 : (p : Int) ≤ (s.size : Int) := by omega
    by_cases hlt : p < s.size
    · have c2 : (p : Int) < (s.size : Int) := by omega
      have c3 : ((p : Int) == (s.size : Int)) = false := by simp; omega
      have hd := drop_get s p hlt
      by_cases h34 : s[p].toNat = 34
      · have e34 : ((s[p].toNat : Int) == 34) = true := by rw [h34]; rfl
        have H : Hid (r0 = .inr (l, p - (k + 1) + 1)) := hid <| by
          have := R.out
          rw [hd, T.unq_end _ _ h34] at this
          simpa [T.sp] using this
        clear hd h34 R HR
        go_wp2_with fail
        go_ret2
        exact UnqPost.good H.out (by omega) F
      · have e34 : ((s[p].toNat : Int) == 34) = false := by simp; omega
        by_cases h92 : s[p].toNat = 92
        · have e92 : ((s[p].toNat : Int) == 92) = true := by rw [h92]; rfl
          have HC := escaped_any s p hs hlt
          cases he : T.esc (s.data.toList.drop (p + 1)) with
          | none =>
            have H : Hid (r0 = .inl (p - (k + 1))) := hid <| by
              have := R.out
              rw [hd, T.unq_noesc _ _ h92 he] at this
              exact this
            rw [he] at HC
            clear hd h92 h34 R HR he
            go_wp2_with fail
            refine (HC _).mono ?_
            rintro e w' ⟨rfl, rfl⟩
            go_wp2_with fail
            exact ⟨rfl, UnqPost.bad H.out (by omega) F.below⟩
          | some x =>
            have h3 := T.esc_three he
            rw [List.length_drop, size_list] at h3
            have H : Hid (r0 = T.sp (p + 4 - (k + 1)) (l ++ [x]) (T.unq (s.data.toList.drop (p + 4)))) := hid <| by
              have := R.out
              rw [hd, T.unq_esc _ _ x h92 he, T.sp_sp, List.drop_drop] at this
              rw [this, show p - (k + 1) + 4 = p + 4 - (k + 1) by omega]
            rw [he] at HC
            clear hd h92 h34 R HR he
            have d1 : (p : Int) + 4 ≤ (s.size : Int) := by omega
            go_wp2_with fail
            refine (HC _).mono ?_
            rintro e w' ⟨rfl, rfl⟩
            go_wp2_with (first | (at_builtin; refine wpList_append_bytes rfl _ _ _ rfl i0 Tryd.underlying30 hi hz0 hz1 hz2 _ _ rfl (F.alloc _) _ _ _ [x] rfl rfl (cells_new _ _ _ _ rfl) (by omega) ?_))
            intro v1 w1 F1
            go_wp2_with fail
            go_roundw
            case rel => exact ⟨p + 4, l ++ [x], by omega, by omega, by go_num, by simp; omega, F1, H⟩
            case measure => simp [intOf]; omega
        · have e92 : ((s[p].toNat : Int) == 92) = false := by simp; omega
          have HC := itself_any s[p]
          cases hit : T.itself s[p] with
          | true =>
            have H : Hid (r0 = T.sp (p + 1 - (k + 1)) (l ++ [s[p]]) (T.unq (s.data.toList.drop (p + 1)))) := hid <| by
              have := R.out
              rw [hd, T.unq_self _ _ hit, T.sp_sp] at this
              rw [this, show p - (k + 1) + 1 = p + 1 - (k + 1) by omega]
            rw [hit] at HC
            clear hd h92 h34 R HR hit
            go_wp2_with fail
            refine (HC _).mono ?_
            rintro e w' ⟨rfl, rfl⟩
            go_wp2_with (first | (at_builtin; refine wpList_append_bytes rfl _ _ _ rfl i0 Tryd.underlying30 hi hz0 hz1 hz2 _ _ rfl (F.alloc _) _ _ _ [s[p]] rfl rfl (cells_new _ _ _ _ rfl) (by omega) ?_))
            intro v1 w1 F1
            go_wp2_with fail
            go_roundw
            case rel => exact ⟨p + 1, l ++ [s[p]], by omega, by omega, by go_num, by simp; omega, F1, H⟩
            case measure => simp [intOf]; omega
          | false =>
            have H : Hid (r0 = .inl (p - (k + 1))) := hid <| by
              have := R.out
              rw [hd, T.unq_bad _ _ h34 h92 hit] at this
              exact this
            rw [hit] at HC
            clear hd h92 h34 R HR hit
            go_wp2_with fail
            refine (HC _).mono ?_
            rintro e w' ⟨rfl, rfl⟩
            go_wp2_with fail
            exact ⟨rfl, UnqPost.bad H.out (by omega) F.below⟩
    · obtain rfl : p = s.size := by omega
      have c3 : ((s.size : Int) == (s.size : Int)) = true := by simp
      have H : Hid (r0 = .inl (s.size - (k + 1))) := hid <| by
        have := R.out
        rw [List.drop_eq_nil_of_le (by rw [size_list]; exact Nat.le_refl _), T.unq_nil] at this
        exact this
      go_wp2_with fail
      exact ⟨rfl, UnqPost.bad H.out (by omega) F.below⟩
end Go.Proofs.YtbpdmkohihgnjaaDoor.L
namespace Go.Proofs.YtbpdmkohihgnjaaDoor.L
open Go.RowKit
namespace T
def okc (c : UInt8) : Bool := isLet c || isDig c || c.toNat == 95
def name (l : List UInt8) : Bool := decide (1 ≤ l.length) && decide (l.length ≤ 24) && isLet (l.headD 0) && l.all okc
end T
theorem take_snoc (s : ByteArray) (k : Nat) (h : k < s.size) : s.data.toList.take (k + 1) = s.data.toList.take k ++ [s[k]] := by
  rw [List.take_succ_eq_append_getElem (by simpa using h)]; rfl
theorem take_size (s : ByteArray) : s.data.toList.take s.size = s.data.toList := List.take_length
theorem ne_nil (s : ByteArray) (h : 0 < s.size) : (¬ s.toList = []) ∧ s.toList.isEmpty = false ∧ s.data.toList.headD 0 = s[0] := by
  have hd := drop_get s 0 h
  rw [List.drop_zero] at hd
  refine ⟨?_, ?_, ?_⟩
  · rw [ByteArray.toList_eq s, hd]; simp
  · rw [ByteArray.toList_eq s, hd]; rfl
  · rw [hd]; rfl
theorem emp (s : ByteArray) (h : s.size = 0) : s = ⟨#[]⟩ := by
  cases s with
  | mk d => congr; exact Array.eq_empty_of_size_eq_zero h

set_option maxHeartbeats 1000000 in
theorem name_any (W : World) (s : ByteArray) (hs : s.size ≤ 140737488355328) :
    Calls Tryd.prog 52 #[.string s] W fun e W' => e = .returned (.int .i64 (if T.name s.data.toList then 0 else 42)) ∧ W = W' := by
  generalize hr0 : (if T.name s.data.toList then (0 : Int) else 42) = r0
  by_cases h0 : s.size = 0
  · have hse := emp s h0
    have HR : Hid (r0 = 42) := hid (by rw [← hr0, hse]; rfl)
    clear hr0 hs h0
    subst hse
    go_enter Tryd.func52, Tryd.ntmps52
    go_wp2_with fail
    go_ret
    exact ⟨ret_int HR.out.symm, rfl⟩
  · have hlt : 0 < s.size := by omega
    obtain ⟨n1, n2, n3⟩ := ne_nil s hlt
    have b1 : (0 : Int) < (s.size : Int) := by omega
    by_cases h24 : s.size ≤ 24
    · have b2 : (s.size : Int) ≤ 24 := by omega
      have HC := letter_any s[0]
      cases hl : T.isLet s[0] with
      | false =>
        have HR : Hid (r0 = 42) := hid (by rw [← hr0, if_neg]; unfold T.name; rw [n3, hl]; simp)
        rw [hl] at HC
        clear hr0 h0 n3 hl
        go_enter Tryd.func52, Tryd.ntmps52
        go_wp2_with fail
        refine (HC _).mono ?_
        rintro e w' ⟨rfl, rfl⟩
        go_wp2_with fail
        go_ret
        exact ⟨ret_int HR.out.symm, rfl⟩
      | true =>
        rw [hl] at HC
        have HR : Hid (r0 = if s.data.toList.all T.okc then 0 else 42) := hid (by
          rw [← hr0]
          congr 1
          unfold T.name
          rw [n3, hl, size_list, decide_eq_true h24, decide_eq_true (show 1 ≤ s.size by omega)]
          simp)
        clear hr0 h0 n3 hl
        go_enter Tryd.func52, Tryd.ntmps52
        go_wp2_with fail
        refine (HC _).mono ?_
        rintro e w' ⟨rfl, rfl⟩
        go_wp2_with fail
        clear HC
        go_loopw [3, 4, 20] (fun _ _ i wr => ∃ k : Nat, k ≤ s.size ∧ i = .int .i64 k ∧ (s.data.toList.take k).all T.okc = true ∧ W = wr) (fun _ _ i _ => s.size - (intOf i).toNat)
        case atStart => exact ⟨0, Nat.zero_le _, rfl, by simp, rfl⟩
        case round =>
          obtain ⟨k, hk, rfl, ha, rfl⟩ := hrel
          by_cases hk2 : k < s.size
          · have c1 : (k : Int) < (s.size : Int) := by omega
            have HL := letter_any s[k]
            have HD := digit_any s[k]
            have hsn := take_snoc s k hk2
            have HS : Hid ((s.data.toList.take (k + 1)).all T.okc = T.okc s[k]) := hid (by rw [hsn, List.all_append, ha]; simp)
            have HE : Hid (T.okc s[k] = false → r0 = 42) := hid (by
              intro h
              rw [HR.out, if_neg]
              intro h2
              rw [List.all_eq_true] at h2
              have := h2 s[k] (by
                have : s.data.toList.drop k = s[k] :: _ := drop_get s k hk2
                have h3 : s[k] ∈ s.data.toList.drop k := by rw [this]; simp
                exact List.mem_of_mem_drop h3)
              rw [h] at this
              cases this)
            clear hsn ha HR
            cases hL : T.isLet s[k] with
            | true =>
              have HK : Hid (T.okc s[k] = true) := hid (by simp [T.okc, hL])
              rw [hL] at HL
              clear hL
              go_wp2_with fail
              refine (HL _).mono ?_
              rintro e w' ⟨rfl, rfl⟩
              go_wp2_with fail
              go_roundw
              case rel => exact ⟨k + 1, by omega, by go_num, by rw [HS.out]; exact HK.out, trivial⟩
              case measure => simp [intOf]; omega
            | false =>
              rw [hL] at HL
              cases hD : T.isDig s[k] with
              | true =>
                have HK : Hid (T.okc s[k] = true) := hid (by simp [T.okc, hD])
                rw [hD] at HD
                clear hL hD
                go_wp2_with fail
                refine (HL _).mono ?_
                rintro e w' ⟨rfl, rfl⟩
                go_wp2_with fail
                refine (HD _).mono ?_
                rintro e w' ⟨rfl, rfl⟩
                go_wp2_with fail
                go_roundw
                case rel => exact ⟨k + 1, by omega, by go_num, by rw [HS.out]; exact HK.out, trivial⟩
                case measure => simp [intOf]; omega
              | false =>
                rw [hD] at HD
                by_cases h95 : s[k].toNat = 95
                · have HK : Hid (T.okc s[k] = true) := hid (by simp [T.okc, h95])
                  have e95 : ((s[k].toNat : Int) != 95) = false := by rw [h95]; rfl
                  clear hL hD h95
                  go_wp2_with fail
                  refine (HL _).mono ?_
                  rintro e w' ⟨rfl, rfl⟩
                  go_wp2_with fail
                  refine (HD _).mono ?_
                  rintro e w' ⟨rfl, rfl⟩
                  go_wp2_with fail
                  go_roundw
                  case rel => exact ⟨k + 1, by omega, by go_num, by rw [HS.out]; exact HK.out, trivial⟩
                  case measure => simp [intOf]; omega
                · have HK : Hid (T.okc s[k] = false) := hid (by simp [T.okc, hL, hD, h95])
                  have e95 : ((s[k].toNat : Int) != 95) = true := by rw [bne_iff_ne]; omega
                  clear hL hD h95
                  go_wp2_with fail
                  refine (HL _).mono ?_
                  rintro e w' ⟨rfl, rfl⟩
                  go_wp2_with fail
                  refine (HD _).mono ?_
                  rintro e w' ⟨rfl, rfl⟩
                  go_wp2_with fail
                  go_ret
                  exact ⟨ret_int (HE.out HK.out).symm, rfl⟩
          · obtain rfl : k = s.size := by omega
            rw [take_size] at ha
            have HF : Hid (r0 = 0) := hid (by rw [HR.out, if_pos ha])
            clear ha HR
            go_wp2_with fail
            go_ret
            exact ⟨ret_int HF.out.symm, rfl⟩
    · have b2 : (24 : Int) < (s.size : Int) := by omega
      have HR : Hid (r0 = 42) := hid (by rw [← hr0]; simp [T.name, h24])
      clear hr0 h0 n3
      go_enter Tryd.func52, Tryd.ntmps52
      go_wp2_with fail
      go_ret
      exact ⟨ret_int HR.out.symm, rfl⟩

end Go.Proofs.YtbpdmkohihgnjaaDoor.L
namespace Go.Proofs.YtbpdmkohihgnjaaDoor.S
open Go.RowKit

def ad (a b : Int) : Int := (a + b) % 4294967296
def xo (a b : Int) : Int := bits .xor .u32 a b
def an (a b : Int) : Int := bits .and .u32 a b
def no (a : Int) : Int := bits .xor .u32 4294967295 a
def rot (w : Int) (k : Nat) : Int := bits .or .u32 (w * 2 ^ (32 - k) % 4294967296) (w / 2 ^ k)
def K : List Int := [1116352408, 1899447441, 3049323471, 3921009573, 961987163, 1508970993, 2453635748, 2870763221, 3624381080, 310598401, 607225278, 1426881987, 1925078388, 2162078206, 2614888103, 3248222580, 3835390401, 4022224774, 264347078, 604807628, 770255983, 1249150122, 1555081692, 1996064986, 2554220882, 2821834349, 2952996808, 3210313671, 3336571891, 3584528711, 113926993, 338241895, 666307205, 773529912, 1294757372, 1396182291, 1695183700, 1986661051, 2177026350, 2456956037, 2730485921, 2820302411, 3259730800, 3345764771, 3516065817, 3600352804, 4094571909, 275423344, 430227734, 506948616, 659060556, 883997877, 958139571, 1322822218, 1537002063, 1747873779, 1955562222, 2024104815, 2227730452, 2361852424, 2428436474, 2756734187, 3204031479, 3329325298]
def First : List Int := [1779033703, 3144134277, 1013904242, 2773480762, 1359893119, 2600822924, 528734635, 1541459225]
def s0 (x : Int) : Int := xo (xo (rot x 7) (rot x 18)) (x / 8)
def s1 (x : Int) : Int := xo (xo (rot x 17) (rot x 19)) (x / 1024)
def S0 (x : Int) : Int := xo (xo (rot x 2) (rot x 13)) (rot x 22)
def S1 (x : Int) : Int := xo (xo (rot x 6) (rot x 11)) (rot x 25)
def ch (e f g : Int) : Int := xo (an e f) (an (no e) g)
def mj (a b c : Int) : Int := xo (xo (an a b) (an a c)) (an b c)
def next (L : List Int) (t : Nat) : Int := (s1 (L.getD (t - 2) 0) + L.getD (t - 7) 0 + s0 (L.getD (t - 15) 0) + L.getD (t - 16) 0) % 4294967296
def sched (B : List Int) : Nat → List Int
  | 0 => B
  | k + 1 => sched B k ++ [next (sched B k) (16 + k)]
def u1 (L : List Int) (x : Int) : Int := L.getD 7 0 + S1 (L.getD 4 0) + ch (L.getD 4 0) (L.getD 5 0) (L.getD 6 0) + x
def u2 (L : List Int) : Int := S0 (L.getD 0 0) + mj (L.getD 0 0) (L.getD 1 0) (L.getD 2 0)
def round (L : List Int) (x : Int) : List Int := [(u1 L x + u2 L) % 4294967296, L.getD 0 0, L.getD 1 0, L.getD 2 0, (L.getD 3 0 + u1 L x) % 4294967296, L.getD 4 0, L.getD 5 0, L.getD 6 0]
def rounds (S : List Int) (W : List Int) : Nat → List Int
  | 0 => S
  | k + 1 => round (rounds S W k) (ad (K.getD k 0) (W.getD k 0))
def plus (a b : List Int) (t : Nat) : List Int := (List.range 8).map fun i => if i < t then ad (a.getD i 0) (b.getD i 0) else a.getD i 0
def block (S B : List Int) : List Int := plus (rounds S (sched B 48) 64) S 8
end Go.Proofs.YtbpdmkohihgnjaaDoor.S
