import Derived.Test.YtncnogndopgknaaGreatDoorP09
import Derived.Laws.BitsAllLaws
import Derived.Shelf.Small.Wraps
import Derived.Shelf.Strings.BuilderK
import Derived.Shelf.Strconv.Itoa4
import Derived.Shelf.Strconv.Clone
import Derived.Shelf.Strings.Prefix
import Derived.Shelf.Strings.Split
import Derived.Test.YtncnogndopgknaaGreatDoorProg
import Derived.Test.YtncnogndopgknaaGreatDoorP03
namespace Go.Proofs.YtncnogndopgknaaGreatDoor
open Go.RowKit
theorem or_digit (x b : Int) (x0 : 0 ≤ x) (x1 : x < 268435456) (b0 : 0 ≤ b) (b1 : b < 16) : bits .or .u32 (x * 16) b = x * 16 + b := by
  rw [u32_or _ _ (by omega) (by omega) b0 (by omega), nat_join 4 _ _ (by omega) (by omega)]
  omega
set_option maxHeartbeats 1000000 in
theorem hexed_any (W : World) (s : ByteArray) (hs : s.size ≤ 1000000000) :
    Calls Tryz.prog 171 #[.string s] W fun e W' => e = .returned (numRes (T.hexed s.data.toList)) ∧ W = W' := by
  generalize hr0 : numRes (T.hexed s.data.toList) = r0
  by_cases h0 : s.size = 0
  · have hse := emp s h0
    have HR : Hid (.tuple #[.int .u32 0, .int .i64 41] = r0) := hid (by rw [← hr0, hse]; rfl)
    clear hr0 hs h0
    subst hse
    go_enter Tryz.func171, Tryz.ntmps171
    go_wp2_with fail
    go_ret2
    exact ⟨ret_val HR.out, rfl⟩
  · have hlt : 0 < s.size := by omega
    obtain ⟨n1, n2, n3⟩ := ne_nil s hlt
    have b1 : (0 : Int) < (s.size : Int) := by omega
    by_cases h10 : s.size ≤ 8
    · have b2 : (s.size : Int) ≤ 8 := by omega
      have HR : Hid (numRes (T.hval s.data.toList) = r0) := hid (by
        have hneg : ¬ (s.data.toList.length = 0 ∨ 8 < s.data.toList.length) := by
          rw [size_list]
          omega
        rw [← hr0]
        unfold T.hexed
        rw [if_neg hneg])
      clear hr0 h0 n3
      go_enter Tryz.func171, Tryz.ntmps171
      go_wp2_with fail
      go_loopw [4, 5, 6, 7, 17] (fun n _ _ _ i wr => ∃ (k : Nat) (a : Int), k ≤ s.size ∧ i = .int .i64 k ∧ n = .int .u32 a ∧ 0 ≤ a ∧ a < 4294967296 ∧ Hid (∃ b : Nat, a = (b : Int) ∧ T.hval (s.data.toList.take k) = some b) ∧ W = wr) (fun _ _ _ _ i _ => s.size - (intOf i).toNat)
      case atStart => exact ⟨0, 0, Nat.zero_le _, rfl, rfl, by omega, by omega, hid ⟨0, rfl, by simp [T.hval]⟩, rfl⟩
      case round =>
        obtain ⟨k, a, hk, rfl, rfl, ha0, ha1, ha, rfl⟩ := hrel
        by_cases hk2 : k < s.size
        · have c1 : (k : Int) < (s.size : Int) := by omega
          obtain ⟨b, hb1, hb2⟩ := ha.out
          have hlt1 := T.hval_lt hb2
          rw [List.length_take, size_list, Nat.min_eq_left (by omega)] at hlt1
          have hpow : 16 ^ k ≤ 16 ^ 7 := Nat.pow_le_pow_right (by decide) (by omega)
          have q1 : a < 268435456 := by omega
          cases hD : T.hexV s[k] with
          | some d =>
            have HD := hexValue_some _ d hD
            have hd := (T.hexV_lt hD).1
            have q2 : (d : Int) < 16 := by omega
            have q3 : (0 : Int) ≤ (d : Int) := by omega
            have ho := or_digit a (d : Int) ha0 q1 q3 q2
            have HN : Hid (∃ b : Nat, a * 16 + (d : Int) = (b : Int) ∧ T.hval (s.data.toList.take (k + 1)) = some b) := hid ⟨b * 16 + d, by omega, by
              rw [take_snoc s k hk2, T.hval_snoc, hb2]
              simp only [T.hstep, hD]⟩
            clear hb1 hb2 hlt1 hpow ha HR hD
            go_wp2_with fail
            refine (HD _).mono ?_
            rintro e w' ⟨rfl, rfl⟩
            go_wp2_with fail
            go_roundw
            case rel => exact ⟨k + 1, _, by omega, by go_num, rfl, by omega, by omega, HN, trivial⟩
            case measure => simp [intOf]; omega
          | none =>
            have HD := hexValue_none _ hD
            have HF : Hid (.tuple #[.int .u32 0, .int .i64 41] = r0) := hid (by
              rw [← HR.out, ← List.take_append_drop k s.data.toList, T.hval_append, hb2, drop_get s k hk2, List.foldl_cons]
              simp only [T.hstep, hD]
              rw [T.hfold_none]
              rfl)
            clear hb1 hb2 hlt1 hpow ha HR hD
            go_wp2_with fail
            refine (HD _).mono ?_
            rintro e w' ⟨rfl, rfl⟩
            go_wp2_with fail
            go_ret2
            exact ⟨ret_val HF.out, rfl⟩
        · obtain rfl : k = s.size := by omega
          obtain ⟨b, hb1, hb2⟩ := ha.out
          rw [take_size] at hb2
          have HF : Hid (.tuple #[.int .u32 a, .int .i64 0] = r0) := hid (by
            rw [← HR.out, hb2, hb1]
            rfl)
          clear ha HR hb1 hb2
          go_wp2_with fail
          go_ret2
          exact ⟨ret_val HF.out, rfl⟩
    · have b2 : (8 : Int) < (s.size : Int) := by omega
      have HR : Hid (.tuple #[.int .u32 0, .int .i64 41] = r0) := hid (by
        rw [← hr0]
        unfold T.hexed
        rw [if_pos (.inr (by rw [size_list]; omega))]
        rfl)
      clear hr0 h0 n3
      go_enter Tryz.func171, Tryz.ntmps171
      go_wp2_with fail
      go_ret2
      exact ⟨ret_val HR.out, rfl⟩
end Go.Proofs.YtncnogndopgknaaGreatDoor
namespace Go.Proofs
open Go.Shelf
def Tryz.lays169_ren : Go.Shelf.Ren := ⟨fun | 169 => 34 | n => n, fun | 70 => 90 | 9 => 9 | 0 => 0 | 72 => 93 | 37 => 91 | 127 => 136 | 3 => 3 | 5 => 5 | n => n, fun | n => n⟩
def Tryz.lays103_ren : Go.Shelf.Ren := ⟨fun | 103 => 167 | 210 => 170 | 206 => 173 | n => n, fun | 9 => 9 | 4 => 4 | 24 => 277 | 3 => 3 | n => n, fun | n => n⟩
theorem Tryz.lays103 : Go.Proofs.Lays.n103 Tryz.prog Tryz.lays103_ren := {
  mixed := by kernel_rfl
  f103 := Tryz.func167.trans (congrArg some (by kernel_rfl))
  f206 := Tryz.func173.trans (congrArg some (by kernel_rfl))
  f210 := Tryz.func170.trans (congrArg some (by kernel_rfl))
  t3 := Tryz.underlying3
  a3 := Tryz.isAgg3
  z3 := Tryz.sizeOf3
  v3 := Tryz.zeroValue3
  t4 := Tryz.underlying4
  a4 := Tryz.isAgg4
  z4 := Tryz.sizeOf4
  v4 := Tryz.zeroValue4
  t9 := Tryz.underlying9
  a9 := Tryz.isAgg9
  z9 := Tryz.sizeOf9
  v9 := Tryz.zeroValue9
  t24 := Tryz.underlying277
  a24 := Tryz.isAgg277
  z24 := Tryz.sizeOf277
  v24 := Tryz.zeroValue277 }
open Go.RowKit in
theorem Tryz.strings_CutPrefix (s p : ByteArray) (w : World) :
    Calls Tryz.prog 167 #[.string s, .string p] w fun e w' => e = .returned (.tuple #[.string ⟨(Lib.trimPrefix s.data.toList p.data.toList).toArray⟩, .bool (Lib.hasPrefix s.data.toList p.data.toList)]) ∧ w' = w := Any.strings_CutPrefix Tryz.lays103 s p w
def Tryz.lays283_ren : Go.Shelf.Ren := ⟨fun | 283 => 96 | n => n, fun | 3 => 3 | 9 => 9 | 4 => 4 | n => n, fun | n => n⟩
theorem Tryz.lays283 : Go.Proofs.Lays.n283 Tryz.prog Tryz.lays283_ren := {
  mixed := by kernel_rfl
  f283 := Tryz.func96.trans (congrArg some (by kernel_rfl))
  t3 := Tryz.underlying3
  a3 := Tryz.isAgg3
  z3 := Tryz.sizeOf3
  v3 := Tryz.zeroValue3
  t4 := Tryz.underlying4
  a4 := Tryz.isAgg4
  z4 := Tryz.sizeOf4
  v4 := Tryz.zeroValue4
  t9 := Tryz.underlying9
  a9 := Tryz.isAgg9
  z9 := Tryz.sizeOf9
  v9 := Tryz.zeroValue9 }
open Go.Lib in
theorem Tryz.internal_strconv_small (i : Nat) (h : i < 100) (w : World) :
    Calls Tryz.prog 96 #[.int .i64 i] w fun e w' => e = .returned (.string ⟨(Lib.decDigits i).toArray⟩) ∧ w' = w := Any.internal_strconv_small Tryz.lays283 i h w
def Tryz.laysM284_ren : Go.Shelf.Ren := ⟨fun | 284 => 97 | 129 => 126 | 317 => 125 | 318 => 127 | n => n, fun | 53 => 117 | 3 => 3 | 212 => 242 | 0 => 0 | 4 => 4 | 46 => 85 | 5 => 5 | 9 => 9 | n => n, fun | 17 => 4 | n => n⟩
theorem Tryz.laysM284 : Go.Proofs.LaysM.n284 Tryz.prog Tryz.laysM284_ren := {
  mixed := by kernel_rfl
  f129 := Tryz.func126.trans (congrArg some (by kernel_rfl))
  f284 := Tryz.func97.trans (congrArg some (by kernel_rfl))
  f317 := Tryz.func125.trans (congrArg some (by kernel_rfl))
  f318 := Tryz.func127.trans (congrArg some (by kernel_rfl))
  t0 := Tryz.underlying0
  a0 := Tryz.isAgg0
  z0 := Tryz.sizeOf0
  v0 := Tryz.zeroValue0
  t3 := Tryz.underlying3
  a3 := Tryz.isAgg3
  z3 := Tryz.sizeOf3
  v3 := Tryz.zeroValue3
  t4 := Tryz.underlying4
  a4 := Tryz.isAgg4
  z4 := Tryz.sizeOf4
  v4 := Tryz.zeroValue4
  t5 := Tryz.underlying5
  a5 := Tryz.isAgg5
  z5 := Tryz.sizeOf5
  v5 := Tryz.zeroValue5
  t9 := Tryz.underlying9
  a9 := Tryz.isAgg9
  z9 := Tryz.sizeOf9
  v9 := Tryz.zeroValue9
  t46 := Tryz.underlying85
  a46 := Tryz.isAgg85
  z46 := Tryz.sizeOf85
  v46 := Tryz.zeroValue85
  t53 := Tryz.underlying117
  a53 := Tryz.isAgg117
  z53 := Tryz.sizeOf117
  v53 := Tryz.zeroValue117
  t212 := Tryz.underlying242
  a212 := Tryz.isAgg242
  z212 := Tryz.sizeOf242
  v212 := Tryz.zeroValue242
  g17 := by kernel_rfl
  i0 := by kernel_rfl
  i3 := by kernel_rfl
  i4 := by kernel_rfl
  i5 := by kernel_rfl
  i9 := by kernel_rfl
  i46 := by kernel_rfl
  i53 := by kernel_rfl
  i212 := by kernel_rfl
  m17 := by kernel_rfl }
open Go.Lib in
theorem Tryz.internal_strconv_numDigits (u : Nat) (h1 : 1 ≤ u) (h2 : u < 18446744073709551616) (w : World) (htab : Lib.TabIs Tryz.prog w "internal/strconv.uint64pow10" .u64 Lib.pow10Tab) :
    Calls Tryz.prog 97 #[.int .u64 u] w fun e w' => e = .returned (.int .i64 (Lib.nDigits u)) ∧ w' = w := Any.internal_strconv_numDigits Tryz.laysM284 u h1 h2 w htab
def Tryz.lays285_ren : Go.Shelf.Ren := ⟨fun | 285 => 98 | n => n, fun | 37 => 91 | 53 => 117 | 3 => 3 | 4 => 4 | 51 => 22 | 9 => 9 | 5 => 5 | 0 => 0 | n => n, fun | n => n⟩
theorem Tryz.lays285 : Go.Proofs.Lays.n285 Tryz.prog Tryz.lays285_ren := {
  mixed := by kernel_rfl
  f285 := Tryz.func98.trans (congrArg some (by kernel_rfl))
  t0 := Tryz.underlying0
  a0 := Tryz.isAgg0
  z0 := Tryz.sizeOf0
  v0 := Tryz.zeroValue0
  t3 := Tryz.underlying3
  a3 := Tryz.isAgg3
  z3 := Tryz.sizeOf3
  v3 := Tryz.zeroValue3
  t4 := Tryz.underlying4
  a4 := Tryz.isAgg4
  z4 := Tryz.sizeOf4
  v4 := Tryz.zeroValue4
  t5 := Tryz.underlying5
  a5 := Tryz.isAgg5
  z5 := Tryz.sizeOf5
  v5 := Tryz.zeroValue5
  t9 := Tryz.underlying9
  a9 := Tryz.isAgg9
  z9 := Tryz.sizeOf9
  v9 := Tryz.zeroValue9
  t37 := Tryz.underlying91
  a37 := Tryz.isAgg91
  z37 := Tryz.sizeOf91
  v37 := Tryz.zeroValue91
  t51 := Tryz.underlying22
  a51 := Tryz.isAgg22
  z51 := Tryz.sizeOf22
  v51 := Tryz.zeroValue22
  t53 := Tryz.underlying117
  a53 := Tryz.isAgg117
  z53 := Tryz.sizeOf117
  v53 := Tryz.zeroValue117 }
open Go.RowKit Go.Sort Go.Lib in
theorem Tryz.internal_strconv_formatBase10 (blk off cap : Nat) (u : Nat) (d : Array UInt8) (w : World) (hH : Holds (fun (b : UInt8) => Value.int .u8 (b.toNat : Int)) w blk off d) (hu : u < 10 ^ d.size) (hu64 : u < 18446744073709551616) (hsz : d.size < 4611686018427387904) :
    Calls Tryz.prog 98 #[.slice (some ⟨blk, off, none⟩) d.size cap, .int .u64 u] w fun e w' =>
      e = .returned (.tuple #[]) ∧ ∃ (n v' : Nat) (dk : Array UInt8), w' = (putRow (fun (b : UInt8) => Value.int .u8 (b.toNat : Int)) w blk off dk).drewN n ∧ FmtInv d.size u 0 v' dk := Any.internal_strconv_formatBase10 Tryz.lays285 blk off cap u d w hH hu hu64 hsz
def Tryz.laysM173_ren : Go.Shelf.Ren := ⟨fun | 173 => 100 | 246 => 130 | 283 => 96 | 284 => 97 | 285 => 98 | 286 => 99 | 129 => 126 | 317 => 125 | 318 => 127 | 319 => 128 | 320 => 129 | 337 => 145 | 338 => 146 | n => n, fun | 2 => 2 | 3 => 3 | 9 => 9 | 4 => 4 | 171 => 212 | 0 => 0 | 53 => 117 | 37 => 91 | 5 => 5 | 173 => 215 | 212 => 242 | 51 => 22 | 20 => 20 | 213 => 243 | 46 => 85 | 232 => 267 | 233 => 268 | n => n, fun | 17 => 4 | 18 => 8 | 19 => 9 | n => n⟩
def Tryz.laysM316_ren : Go.Shelf.Ren := ⟨fun | 316 => 81 | n => n, fun | 9 => 9 | 3 => 3 | 4 => 4 | 37 => 91 | 0 => 0 | 127 => 136 | 5 => 5 | n => n, fun | n => n⟩
theorem Tryz.laysM316 : Go.Proofs.LaysM.n316 Tryz.prog Tryz.laysM316_ren := {
  mixed := by kernel_rfl
  f316 := Tryz.func81.trans (congrArg some (by kernel_rfl))
  t0 := Tryz.underlying0
  a0 := Tryz.isAgg0
  z0 := Tryz.sizeOf0
  v0 := Tryz.zeroValue0
  t3 := Tryz.underlying3
  a3 := Tryz.isAgg3
  z3 := Tryz.sizeOf3
  v3 := Tryz.zeroValue3
  t4 := Tryz.underlying4
  a4 := Tryz.isAgg4
  z4 := Tryz.sizeOf4
  v4 := Tryz.zeroValue4
  t9 := Tryz.underlying9
  a9 := Tryz.isAgg9
  z9 := Tryz.sizeOf9
  v9 := Tryz.zeroValue9
  t37 := Tryz.underlying91
  a37 := Tryz.isAgg91
  z37 := Tryz.sizeOf91
  v37 := Tryz.zeroValue91
  t127 := Tryz.underlying136
  a127 := Tryz.isAgg136
  z127 := Tryz.sizeOf136
  v127 := Tryz.zeroValue136
  t5 := Tryz.underlying5
  a5 := Tryz.isAgg5
  z5 := Tryz.sizeOf5
  v5 := Tryz.zeroValue5
  i0 := by kernel_rfl
  i3 := by kernel_rfl
  i4 := by kernel_rfl
  i5 := by kernel_rfl
  i9 := by kernel_rfl
  i37 := by kernel_rfl
  i127 := by kernel_rfl }
open Go.RowKit in
theorem Tryz.stringslite_Clone (s : ByteArray) (w : World) (hlim : s.size ≤ 281474976710656) :
    Calls Tryz.prog 81 #[.string s] w fun e w' => e = .returned (.string s) ∧ Below w.heap.size w w' := Any.stringslite_Clone Tryz.laysM316 s w hlim
def Tryz.lays100_ren : Go.Shelf.Ren := ⟨fun | 100 => 85 | 207 => 115 | n => n, fun | 9 => 9 | 4 => 4 | 3 => 3 | n => n, fun | n => n⟩
theorem Tryz.lays100 : Go.Proofs.Lays.n100 Tryz.prog Tryz.lays100_ren := {
  mixed := by kernel_rfl
  f100 := Tryz.func85.trans (congrArg some (by kernel_rfl))
  f207 := Tryz.func115.trans (congrArg some (by kernel_rfl))
  t3 := Tryz.underlying3
  a3 := Tryz.isAgg3
  z3 := Tryz.sizeOf3
  v3 := Tryz.zeroValue3
  t4 := Tryz.underlying4
  a4 := Tryz.isAgg4
  z4 := Tryz.sizeOf4
  v4 := Tryz.zeroValue4
  t9 := Tryz.underlying9
  a9 := Tryz.isAgg9
  z9 := Tryz.sizeOf9
  v9 := Tryz.zeroValue9 }
open Go.RowKit Go.Lib in
theorem Tryz.strings_HasSuffix (s p : ByteArray) (w : World) (hs : s.size ≤ 9223372036854775807) :
    Calls Tryz.prog 85 #[.string s, .string p] w fun e w' => e = .returned (.bool (Lib.hasSuffix s.data.toList p.data.toList)) ∧ w' = w := Any.strings_HasSuffix Tryz.lays100 s p w hs
def Tryz.lays102_ren : Go.Shelf.Ren := ⟨fun | 102 => 86 | 209 => 116 | 207 => 115 | n => n, fun | 9 => 9 | 4 => 4 | 3 => 3 | n => n, fun | n => n⟩
theorem Tryz.lays102 : Go.Proofs.Lays.n102 Tryz.prog Tryz.lays102_ren := {
  mixed := by kernel_rfl
  f102 := Tryz.func86.trans (congrArg some (by kernel_rfl))
  f207 := Tryz.func115.trans (congrArg some (by kernel_rfl))
  f209 := Tryz.func116.trans (congrArg some (by kernel_rfl))
  t3 := Tryz.underlying3
  a3 := Tryz.isAgg3
  z3 := Tryz.sizeOf3
  v3 := Tryz.zeroValue3
  t4 := Tryz.underlying4
  a4 := Tryz.isAgg4
  z4 := Tryz.sizeOf4
  v4 := Tryz.zeroValue4
  t9 := Tryz.underlying9
  a9 := Tryz.isAgg9
  z9 := Tryz.sizeOf9
  v9 := Tryz.zeroValue9 }
open Go.RowKit Go.Lib in
theorem Tryz.strings_TrimSuffix (s p : ByteArray) (w : World) (hs : s.size ≤ 9223372036854775807) :
    Calls Tryz.prog 86 #[.string s, .string p] w fun e w' => e = .returned (.string ⟨(Lib.trimSuffix s.data.toList p.data.toList).toArray⟩) ∧ w' = w := Any.strings_TrimSuffix Tryz.lays102 s p w hs
def Tryz.lays146_ren : Go.Shelf.Ren := ⟨fun | 146 => 58 | 221 => 80 | 268 => 110 | 138 => 111 | 143 => 112 | 195 => 137 | 197 => 138 | 218 => 139 | 219 => 140 | 260 => 152 | 217 => 153 | 225 => 154 | 224 => 155 | 267 => 156 | 266 => 164 | 314 => 165 | n => n, fun | 9 => 9 | 31 => 88 | 3 => 3 | 4 => 4 | 0 => 0 | 105 => 252 | 21 => 21 | 5 => 5 | 46 => 85 | 119 => 269 | 139 => 272 | 138 => 271 | 146 => 273 | 51 => 22 | n => n, fun | 1 => 7 | 3 => 11 | 4 => 12 | n => n⟩
theorem Tryz.lays146 : Go.Proofs.Lays.n146 Tryz.prog Tryz.lays146_ren := {
  mixed := by kernel_rfl
  f138 := Tryz.func111.trans (congrArg some (by kernel_rfl))
  f143 := Tryz.func112.trans (congrArg some (by kernel_rfl))
  f146 := Tryz.func58.trans (congrArg some (by kernel_rfl))
  f195 := Tryz.func137.trans (congrArg some (by kernel_rfl))
  f197 := Tryz.func138.trans (congrArg some (by kernel_rfl))
  f217 := Tryz.func153.trans (congrArg some (by kernel_rfl))
  f218 := Tryz.func139.trans (congrArg some (by kernel_rfl))
  f219 := Tryz.func140.trans (congrArg some (by kernel_rfl))
  f221 := Tryz.func80.trans (congrArg some (by kernel_rfl))
  f224 := Tryz.func155.trans (congrArg some (by kernel_rfl))
  f225 := Tryz.func154.trans (congrArg some (by kernel_rfl))
  f260 := Tryz.func152.trans (congrArg some (by kernel_rfl))
  f266 := Tryz.func164.trans (congrArg some (by kernel_rfl))
  f267 := Tryz.func156.trans (congrArg some (by kernel_rfl))
  f268 := Tryz.func110.trans (congrArg some (by kernel_rfl))
  f314 := Tryz.func165.trans (congrArg some (by kernel_rfl))
  t0 := Tryz.underlying0
  a0 := Tryz.isAgg0
  z0 := Tryz.sizeOf0
  v0 := Tryz.zeroValue0
  t3 := Tryz.underlying3
  a3 := Tryz.isAgg3
  z3 := Tryz.sizeOf3
  v3 := Tryz.zeroValue3
  t4 := Tryz.underlying4
  a4 := Tryz.isAgg4
  z4 := Tryz.sizeOf4
  v4 := Tryz.zeroValue4
  t5 := Tryz.underlying5
  a5 := Tryz.isAgg5
  z5 := Tryz.sizeOf5
  v5 := Tryz.zeroValue5
  t9 := Tryz.underlying9
  a9 := Tryz.isAgg9
  z9 := Tryz.sizeOf9
  v9 := Tryz.zeroValue9
  t21 := Tryz.underlying21
  a21 := Tryz.isAgg21
  z21 := Tryz.sizeOf21
  v21 := Tryz.zeroValue21
  t31 := Tryz.underlying88
  a31 := Tryz.isAgg88
  z31 := Tryz.sizeOf88
  v31 := Tryz.zeroValue88
  t46 := Tryz.underlying85
  a46 := Tryz.isAgg85
  z46 := Tryz.sizeOf85
  v46 := Tryz.zeroValue85
  t51 := Tryz.underlying22
  a51 := Tryz.isAgg22
  z51 := Tryz.sizeOf22
  v51 := Tryz.zeroValue22
  t105 := Tryz.underlying252
  a105 := Tryz.isAgg252
  z105 := Tryz.sizeOf252
  v105 := Tryz.zeroValue252
  t119 := Tryz.underlying269
  a119 := Tryz.isAgg269
  z119 := Tryz.sizeOf269
  t138 := Tryz.underlying271
  a138 := Tryz.isAgg271
  z138 := Tryz.sizeOf271
  v138 := Tryz.zeroValue271
  t139 := Tryz.underlying272
  a139 := Tryz.isAgg272
  z139 := Tryz.sizeOf272
  v139 := Tryz.zeroValue272
  t146 := Tryz.underlying273
  a146 := Tryz.isAgg273
  z146 := Tryz.sizeOf273
  v146 := Tryz.zeroValue273
  g1 := by kernel_rfl
  g3 := by kernel_rfl
  g4 := by kernel_rfl }
open Go.RowKit Go.Lib in
theorem Tryz.strings_Split (s sep : ByteArray) (m : Int) (w : World) (hs : s.size < 4294967281) (hm : w.cell? ⟨7, 0, none⟩ = some (.int .i64 m)) (h1 : 1 ≤ sep.size) :
    Calls Tryz.prog 58 #[.string s, .string sep] w fun e w' =>
      e = .returned (.slice (some ⟨w.heap.size, 0, none⟩) (Lib.countB s sep + 1) (Lib.countB s sep + 1)) ∧ w' = w.alloc (.cells ((Lib.splitB sep 0 (Lib.countB s sep) s).map Value.string).toArray 9) := Any.strings_Split Tryz.lays146 (by kernel_rfl) s sep m w hs hm h1
end Go.Proofs
namespace Go.Proofs.YtncnogndopgknaaGreatDoor
open Go.RowKit
def sgnRes (r : Option Int) : Value := match r with
  | some v => .tuple #[.int .i32 v, .int .i64 0]
  | none => .tuple #[.int .i32 0, .int .i64 41]
theorem numRes_cases (r : Option Nat) : (∃ v, r = some v ∧ numRes r = .tuple #[.int .u32 (v : Int), .int .i64 0]) ∨ (r = none ∧ numRes r = .tuple #[.int .u32 0, .int .i64 41]) := by
  cases r with
  | none => exact .inr ⟨rfl, rfl⟩
  | some v => exact .inl ⟨v, rfl, rfl⟩
theorem tens_le {l : List UInt8} {m v : Nat} (h : T.tens l m = some v) : v ≤ m := by
  unfold T.tens at h
  split at h
  · cases h
  · split at h
    · split at h
      · cases h; assumption
      · cases h
    · cases h

set_option maxHeartbeats 1000000 in
theorem number_any (W : World) (s : ByteArray) (hs : s.size ≤ 1000000000) :
    Calls Tryz.prog 168 #[.string s] W fun e W' => e = .returned (numRes (T.number s.data.toList)) ∧ W = W' := by
  have HC := Tryz.strings_CutPrefix s ⟨#[48, 120]⟩
  have HT := fun w => tens_any w s 4294967295 (by decide) hs 4294967295 rfl
  cases hp : Lib.hasPrefix s.data.toList [48, 120] with
  | true =>
    have hp' : ([48, 120] : List UInt8).isPrefixOf s.data.toList = true := hp
    have HX : Hid (∀ w, Calls Tryz.prog 171 #[.string ⟨(s.data.toList.drop 2).toArray⟩] w fun e W' => e = .returned (numRes (T.hexed (s.data.toList.drop 2))) ∧ w = W') := fun w => by
      have := hexed_any w ⟨(s.data.toList.drop 2).toArray⟩ (by show (s.data.toList.drop 2).toArray.size ≤ _; simp; have : s.data.size = s.size := rfl; omega)
      simpa using this
    have HR : Hid (numRes (T.number s.data.toList) = numRes (T.hexed (s.data.toList.drop 2))) := hid (by unfold T.number; rw [if_pos hp'])
    have HC2 : Hid (∀ w, Calls Tryz.prog 167 #[.string s, .string ⟨#[48, 120]⟩] w fun e w' => e = .returned (.tuple #[.string ⟨(s.data.toList.drop 2).toArray⟩, .bool true]) ∧ w' = w) := hid (by
      intro w
      have := HC w
      simp only [Lib.trimPrefix, hp, if_true] at this
      exact this)
    clear HC hp hp' HT
    generalize T.hexed (s.data.toList.drop 2) = r at *
    generalize s.data.toList.drop 2 = d at *
    rcases numRes_cases r with ⟨v, -, hv⟩ | ⟨-, hv⟩
    all_goals
      rw [hv] at HX HR
      clear hv
      go_enter Tryz.func168, Tryz.ntmps168
      go_wp2_with (first | (go_at_call 167; refine (HC2.out _).mono ?_; rintro e w' ⟨rfl, rfl⟩) | (go_at_call 171; refine (HX.out _).mono ?_; rintro e w' ⟨rfl, rfl⟩))
      go_ret2
      exact ⟨ret_val HR.out.symm, rfl⟩
  | false =>
    have hp' : ([48, 120] : List UInt8).isPrefixOf s.data.toList = false := hp
    have HR : Hid (numRes (T.number s.data.toList) = numRes (T.tens s.data.toList 4294967295)) := hid (by unfold T.number; rw [if_neg (by rw [hp']; simp)])
    have HC2 : Hid (∀ w, Calls Tryz.prog 167 #[.string s, .string ⟨#[48, 120]⟩] w fun e w' => e = .returned (.tuple #[.string s, .bool false]) ∧ w' = w) := hid (by
      intro w
      have := HC w
      simp only [Lib.trimPrefix, hp] at this
      exact this)
    have HT2 : Hid (∀ w, Calls Tryz.prog 172 #[.string s, .int .u64 4294967295] w fun e W' => e = .returned (numRes (T.tens s.data.toList 4294967295)) ∧ w = W') := HT
    clear HC hp hp' HT
    generalize T.tens s.data.toList 4294967295 = r at *
    rcases numRes_cases r with ⟨v, -, hv⟩ | ⟨-, hv⟩
    all_goals
      rw [hv] at HT2 HR
      clear hv
      go_enter Tryz.func168, Tryz.ntmps168
      go_wp2_with (first | (go_at_call 167; refine (HC2.out _).mono ?_; rintro e w' ⟨rfl, rfl⟩) | (go_at_call 172; refine (HT2.out _).mono ?_; rintro e w' ⟨rfl, rfl⟩))
      go_ret2
      exact ⟨ret_val HR.out.symm, rfl⟩
set_option maxHeartbeats 1000000 in
theorem signed_any (W : World) (s : ByteArray) (hs : s.size ≤ 1000000000) :
    Calls Tryz.prog 169 #[.string s] W fun e W' => e = .returned (sgnRes (T.signed s.data.toList)) ∧ W = W' := by
  have HC := Tryz.strings_CutPrefix s ⟨#[45]⟩
  cases hp : Lib.hasPrefix s.data.toList [45] with
  | true =>
    have hp' : ([45] : List UInt8).isPrefixOf s.data.toList = true := hp
    have HX : Hid (∀ w, Calls Tryz.prog 172 #[.string ⟨(s.data.toList.drop 1).toArray⟩, .int .u64 2147483648] w fun e W' => e = .returned (numRes (T.tens (s.data.toList.drop 1) 2147483648)) ∧ w = W') := fun w => by
      have := tens_any w ⟨(s.data.toList.drop 1).toArray⟩ 2147483648 (by decide) (by show (s.data.toList.drop 1).toArray.size ≤ _; simp; have : s.data.size = s.size := rfl; omega) 2147483648 rfl
      simpa using this
    have HR : Hid (sgnRes (T.signed s.data.toList) = sgnRes (match T.tens (s.data.toList.drop 1) 2147483648 with
      | some n => if n = 0 then none else some (-(n : Int))
      | none => none)) := hid (by unfold T.signed; rw [if_pos hp']; rfl)
    have HC2 : Hid (∀ w, Calls Tryz.prog 167 #[.string s, .string ⟨#[45]⟩] w fun e w' => e = .returned (.tuple #[.string ⟨(s.data.toList.drop 1).toArray⟩, .bool true]) ∧ w' = w) := hid (by
      intro w
      have := HC w
      simp only [Lib.trimPrefix, hp, if_true] at this
      exact this)
    clear HC hp hp'
    have hle := fun v => tens_le (l := s.data.toList.drop 1) (m := 2147483648) (v := v)
    generalize T.tens (s.data.toList.drop 1) 2147483648 = r at *
    generalize s.data.toList.drop 1 = d at *
    cases r with
    | none =>
      have HX2 : Hid (∀ w, Calls Tryz.prog 172 #[.string ⟨d.toArray⟩, .int .u64 2147483648] w fun e W' => e = .returned (.tuple #[.int .u32 0, .int .i64 41]) ∧ w = W') := HX
      have HR2 : Hid (sgnRes (T.signed s.data.toList) = .tuple #[.int .i32 0, .int .i64 41]) := HR
      clear HX HR hle
      go_enter Tryz.func169, Tryz.ntmps169
      go_wp2_with (first | (go_at_call 167; refine (HC2.out _).mono ?_; rintro e w' ⟨rfl, rfl⟩) | (go_at_call 172; refine (HX2.out _).mono ?_; rintro e w' ⟨rfl, rfl⟩))
      go_ret2
      exact ⟨ret_val HR2.out.symm, rfl⟩
    | some v =>
      have hv := hle v rfl
      have HX2 : Hid (∀ w, Calls Tryz.prog 172 #[.string ⟨d.toArray⟩, .int .u64 2147483648] w fun e W' => e = .returned (.tuple #[.int .u32 (v : Int), .int .i64 0]) ∧ w = W') := HX
      by_cases h0 : v = 0
      · subst h0
        have HR2 : Hid (sgnRes (T.signed s.data.toList) = .tuple #[.int .i32 0, .int .i64 41]) := HR
        clear HX HR hle
        go_enter Tryz.func169, Tryz.ntmps169
        go_wp2_with (first | (go_at_call 167; refine (HC2.out _).mono ?_; rintro e w' ⟨rfl, rfl⟩) | (go_at_call 172; refine (HX2.out _).mono ?_; rintro e w' ⟨rfl, rfl⟩))
        go_ret2
        exact ⟨ret_val HR2.out.symm, rfl⟩
      · have HR2 : Hid (sgnRes (T.signed s.data.toList) = .tuple #[.int .i32 (-(v : Int)), .int .i64 0]) := hid (by
          rw [HR.out]
          simp only [h0, if_false]
          rfl)
        have c0 : ((v : Int) == 0) = false := by simp; omega
        have w1 : wrap32 (-(v : Int) % 4294967296) = -(v : Int) := by
          unfold wrap32
          omega
        have W1 : Hid (wrap32 (-(v : Int) % 4294967296) = -(v : Int)) := w1
        clear HX HR hle h0 w1
        go_enter Tryz.func169, Tryz.ntmps169
        go_wp2_with (first | (go_at_call 167; refine (HC2.out _).mono ?_; rintro e w' ⟨rfl, rfl⟩) | (go_at_call 172; refine (HX2.out _).mono ?_; rintro e w' ⟨rfl, rfl⟩))
        go_ret2
        exact ⟨ret_val ((congrArg (fun z => Value.tuple #[.int .i32 z, .int .i64 0]) W1.out).trans HR2.out.symm), rfl⟩
  | false =>
    have hp' : ([45] : List UInt8).isPrefixOf s.data.toList = false := hp
    have HX : Hid (∀ w, Calls Tryz.prog 172 #[.string s, .int .u64 2147483647] w fun e W' => e = .returned (numRes (T.tens s.data.toList 2147483647)) ∧ w = W') := fun w => tens_any w s 2147483647 (by decide) hs 2147483647 rfl
    have HR : Hid (sgnRes (T.signed s.data.toList) = sgnRes (match T.tens s.data.toList 2147483647 with
      | some n => some (n : Int)
      | none => none)) := hid (by unfold T.signed; rw [if_neg (by rw [hp']; simp)]; rfl)
    have HC2 : Hid (∀ w, Calls Tryz.prog 167 #[.string s, .string ⟨#[45]⟩] w fun e w' => e = .returned (.tuple #[.string s, .bool false]) ∧ w' = w) := hid (by
      intro w
      have := HC w
      simp only [Lib.trimPrefix, hp] at this
      exact this)
    clear HC hp hp'
    have hle := fun v => tens_le (l := s.data.toList) (m := 2147483647) (v := v)
    generalize T.tens s.data.toList 2147483647 = r at *
    cases r with
    | none =>
      have HX2 : Hid (∀ w, Calls Tryz.prog 172 #[.string s, .int .u64 2147483647] w fun e W' => e = .returned (.tuple #[.int .u32 0, .int .i64 41]) ∧ w = W') := HX
      have HR2 : Hid (sgnRes (T.signed s.data.toList) = .tuple #[.int .i32 0, .int .i64 41]) := HR
      clear HX HR hle
      go_enter Tryz.func169, Tryz.ntmps169
      go_wp2_with (first | (go_at_call 167; refine (HC2.out _).mono ?_; rintro e w' ⟨rfl, rfl⟩) | (go_at_call 172; refine (HX2.out _).mono ?_; rintro e w' ⟨rfl, rfl⟩))
      go_ret2
      exact ⟨ret_val HR2.out.symm, rfl⟩
    | some v =>
      have hv := hle v rfl
      have hv' : (v : Int) ≤ 2147483647 := by omega
      have HX2 : Hid (∀ w, Calls Tryz.prog 172 #[.string s, .int .u64 2147483647] w fun e W' => e = .returned (.tuple #[.int .u32 (v : Int), .int .i64 0]) ∧ w = W') := HX
      have HR2 : Hid (sgnRes (T.signed s.data.toList) = .tuple #[.int .i32 (v : Int), .int .i64 0]) := HR
      clear HX HR hle hv
      go_enter Tryz.func169, Tryz.ntmps169
      go_wp2_with (first | (go_at_call 167; refine (HC2.out _).mono ?_; rintro e w' ⟨rfl, rfl⟩) | (go_at_call 172; refine (HX2.out _).mono ?_; rintro e w' ⟨rfl, rfl⟩))
      go_ret2
      exact ⟨ret_val HR2.out.symm, rfl⟩
end Go.Proofs.YtncnogndopgknaaGreatDoor
namespace Go.Proofs.YtncnogndopgknaaGreatDoor
open Go.RowKit

theorem parted_at (s : ByteArray) (k : Nat) (h : k < s.size) : T.parted (s.data.toList.drop k) = T.isGap s[k] := by rw [drop_get s k h]; rfl
theorem parted_end (s : ByteArray) (k : Nat) (h : s.size ≤ k) : T.parted (s.data.toList.drop k) = true := by rw [List.drop_eq_nil_of_le (by rw [size_list]; exact h)]; rfl

def QwPost (W : World) (k : Nat) (l : List UInt8) (e : Ending) (W' : World) : Prop :=
  Below W.heap.size W W' ∧ match T.unq (l.drop (k + 1)) with
  | .inl x => e = brk (k + 1 + x)
  | .inr (b, n) => e = if T.parted (l.drop (k + 1 + n)) then .returned (.tuple #[.string ⟨b.toArray⟩, .int .i64 ((k + 1 + n : Nat) : Int)]) else brk (k + 1 + n)

set_option maxHeartbeats 1000000 in
theorem quotedWord_any (W : World) (s : ByteArray) (k : Nat) (hs : s.size ≤ 1000000000) (hk : k < s.size) :
    Calls Tryz.prog 113 #[.string s, .int .i64 (k : Int)] W fun e W' => QwPost W k s.data.toList e W' := by
  have HU := unquoted_any W s k hs hk
  have hle := T.unq_le (s.data.toList.drop (k + 1))
  rw [List.length_drop, size_list] at hle
  have b2 : (s.size : Int) ≤ 1000000000 := by omega
  have HP : Hid (∀ e W', QwPost W k s.data.toList e W' = (Below W.heap.size W W' ∧ match T.unq (s.data.toList.drop (k + 1)) with
    | .inl x => e = brk (k + 1 + x)
    | .inr (b, n) => e = if T.parted (s.data.toList.drop (k + 1 + n)) then .returned (.tuple #[.string ⟨b.toArray⟩, .int .i64 ((k + 1 + n : Nat) : Int)]) else brk (k + 1 + n))) := fun _ _ => rfl
  cases hq : T.unq (s.data.toList.drop (k + 1)) with
  | inl x =>
    rw [hq] at HU hle
    have HP2 : Hid (∀ W', Below W.heap.size W W' → QwPost W k s.data.toList (brk (k + 1 + x)) W') := hid (fun W' h => by rw [HP.out, hq]; exact ⟨h, rfl⟩)
    clear HP hq
    have HU2 : Hid (Calls Tryz.prog 141 #[.string s, .int .i64 (k : Int)] W fun e W' => e = .panicked [{ v := .iface 231 (.int .i64 ((k + 1 + x : Nat) : Int)), recovered := false }] ∧ Below W.heap.size W W') := HU
    clear HU
    go_enter Tryz.func113, Tryz.ntmps113
    go_wp2_with fail
    refine HU2.out.mono ?_
    rintro e w1 ⟨rfl, hb⟩
    go_wp2_with fail
    exact ⟨rfl, HP2.out _ hb⟩
  | inr y =>
    obtain ⟨b, n⟩ := y
    rw [hq] at HU hle
    obtain ⟨hle1, hle2⟩ := hle
    have HU2 : Hid (Calls Tryz.prog 141 #[.string s, .int .i64 (k : Int)] W fun e W' => ∃ v, e = .returned (.tuple #[v, .int .i64 ((k + 1 + n : Nat) : Int)]) ∧ HB W W' v b) := HU
    clear HU
    have HP2 : Hid (∀ e W', Below W.heap.size W W' → (e = if T.parted (s.data.toList.drop (k + 1 + n)) then .returned (.tuple #[.string ⟨b.toArray⟩, .int .i64 ((k + 1 + n : Nat) : Int)]) else brk (k + 1 + n)) → QwPost W k s.data.toList e W') := hid (fun e W' h h2 => by rw [HP.out, hq]; exact ⟨h, h2⟩)
    clear HP hq
    generalize hm : k + 1 + n = m at *
    have hm1 : m ≤ s.size := by omega
    have c1 : (m : Int) ≤ (s.size : Int) := by omega
    clear hm hle1 hle2
    by_cases hlt : m < s.size
    · have c2 : (m : Int) < (s.size : Int) := by omega
      have HG := gap_any s[m]
      have hpt := parted_at s m hlt
      cases hg : T.isGap s[m] with
      | true =>
        rw [hg] at HG hpt
        have HF : Hid (∀ W', Below W.heap.size W W' → QwPost W k s.data.toList (.returned (.tuple #[.string ⟨b.toArray⟩, .int .i64 (m : Int)])) W') := hid (fun W' h => HP2.out _ W' h (by rw [hpt]; rfl))
        clear HP2 hpt hg
        go_enter Tryz.func113, Tryz.ntmps113
        go_wp2_with fail
        refine HU2.out.mono ?_
        rintro e w1 ⟨v, rfl, F⟩
        obtain ⟨ao, cc, rfl, hcv⟩ := F.conv
        go_wp2_with fail
        refine (HG _).mono ?_
        rintro e w' ⟨rfl, rfl⟩
        go_wp2_with fail
        go_ret2
        exact HF.out _ F.below
      | false =>
        rw [hg] at HG hpt
        have HF : Hid (∀ W', Below W.heap.size W W' → QwPost W k s.data.toList (.panicked [{ v := .iface 231 (.int .i64 (m : Int)), recovered := false }]) W') := hid (fun W' h => HP2.out _ W' h (by rw [hpt]; rfl))
        clear HP2 hpt hg
        go_enter Tryz.func113, Tryz.ntmps113
        go_wp2_with fail
        refine HU2.out.mono ?_
        rintro e w1 ⟨v, rfl, F⟩
        go_wp2_with fail
        refine (HG _).mono ?_
        rintro e w' ⟨rfl, rfl⟩
        go_wp2_with fail
        exact ⟨rfl, HF.out _ F.below⟩
    · have c2 : (s.size : Int) ≤ (m : Int) := by omega
      have hpt := parted_end s m (by omega)
      have HF : Hid (∀ W', Below W.heap.size W W' → QwPost W k s.data.toList (.returned (.tuple #[.string ⟨b.toArray⟩, .int .i64 (m : Int)])) W') := hid (fun W' h => HP2.out _ W' h (by rw [hpt]; rfl))
      clear HP2 hpt
      go_enter Tryz.func113, Tryz.ntmps113
      go_wp2_with fail
      refine HU2.out.mono ?_
      rintro e w1 ⟨v, rfl, F⟩
      obtain ⟨ao, cc, rfl, hcv⟩ := F.conv
      go_wp2_with fail
      go_ret2
      exact HF.out _ F.below

theorem extract_eq (s : ByteArray) (k p : Nat) : s.extract k p = ⟨((s.data.toList.drop k).take (p - k)).toArray⟩ := by
  have : (s.extract k p).data = ((s.data.toList.drop k).take (p - k)).toArray := by
    rw [ByteArray.data_extract]
    apply Array.toList_inj.1
    simp
  cases h : s.extract k p with
  | mk d => rw [h] at this; simp at this; rw [this]
theorem clone_any (w : World) (s : ByteArray) (hs : s.size ≤ 1000000000) : Calls Tryz.prog 59 #[.string s] w fun e w' => e = .returned (.string s) ∧ Below w.heap.size w w' := by
  have H : Hid (Calls Tryz.prog 81 #[.string s] w fun e w' => e = .returned (.string s) ∧ Below w.heap.size w w') := Tryz.stringslite_Clone s w (by omega)
  go_enter Tryz.func59, Tryz.ntmps59
  go_wp2_with (first | (go_at_call 81; refine H.out.mono ?_; rintro e w' ⟨rfl, hb⟩))
  go_ret
  exact ⟨rfl, hb⟩
theorem ret_pw {a b : ByteArray} {m n : Int} (h1 : a = b) (h2 : m = n) : Ending.returned (.tuple #[.string a, .int .i64 m]) = .returned (.tuple #[.string b, .int .i64 n]) := by rw [h1, h2]
set_option maxHeartbeats 1000000 in
theorem plainWord_any (W : World) (s : ByteArray) (k : Nat) (hs : s.size ≤ 1000000000) (hk : k < s.size) :
    Calls Tryz.prog 114 #[.string s, .int .i64 (k : Int)] W fun e W' => e = .returned (.tuple #[.string ⟨((s.data.toList.drop k).take (T.plainN (s.data.toList.drop k))).toArray⟩, .int .i64 ((k + T.plainN (s.data.toList.drop k) : Nat) : Int)]) ∧ Below W.heap.size W W' := by
  have b1 : (k : Int) < (s.size : Int) := by omega
  have b2 : (s.size : Int) ≤ 1000000000 := by omega
  have hex : ∀ p, (s.extract k p).size ≤ 1000000000 := fun p => by rw [extract_eq]; show (List.toArray _).size ≤ _; simp; have : s.data.size = s.size := rfl; omega
  go_enter Tryz.func114, Tryz.ntmps114
  go_wp2_with fail
  go_loopw [5] (fun i wr => ∃ p : Nat, k ≤ p ∧ p ≤ s.size ∧ i = .int .i64 p ∧ Hid (T.plainN (s.data.toList.drop k) = p - k + T.plainN (s.data.toList.drop p)) ∧ W = wr) (fun i _ => s.size - (intOf i).toNat)
  case atStart => exact ⟨k, Nat.le_refl _, by omega, rfl, hid (by omega), rfl⟩
  case round =>
    obtain ⟨p, hp1, hp2, rfl, R, rfl⟩ := hrel
    have c1 : (p : Int) ≤ (s.size : Int) := by omega
    have c2 : (k : Int) ≤ (p : Int) := by omega
    by_cases hlt : p < s.size
    · have c3 : (p : Int) < (s.size : Int) := by omega
      have HG := gap_any s[p]
      cases hg : T.isGap s[p] with
      | true =>
        have HF : Hid (T.plainN (s.data.toList.drop k) = p - k) := hid (by
          rw [R.out, drop_get s p hlt]
          simp [T.plainN, hg])
        rw [hg] at HG
        clear R hg
        go_wp2_with fail
        refine (HG _).mono ?_
        rintro e w' ⟨rfl, rfl⟩
        go_wp2_with fail
        refine (clone_any _ _ (hex p)).mono ?_
        rintro e w1 ⟨rfl, hb⟩
        go_wp2_with fail
        go_ret2
        exact ⟨ret_pw (by rw [extract_eq, HF.out]) (by rw [HF.out]; omega), hb⟩
      | false =>
        have HF : Hid (T.plainN (s.data.toList.drop k) = p + 1 - k + T.plainN (s.data.toList.drop (p + 1))) := hid (by
          rw [R.out, drop_get s p hlt, T.plainN_pos _ hg]
          omega)
        rw [hg] at HG
        clear R hg
        go_wp2_with fail
        refine (HG _).mono ?_
        rintro e w' ⟨rfl, rfl⟩
        go_wp2_with fail
        go_roundw
        case rel => exact ⟨p + 1, by omega, by omega, by go_num, HF, trivial⟩
        case measure => simp [intOf]; omega
    · obtain rfl : p = s.size := by omega
      have HF : Hid (T.plainN (s.data.toList.drop k) = s.size - k) := hid (by
        rw [R.out, List.drop_eq_nil_of_le (by rw [size_list]; exact Nat.le_refl _)]
        simp [T.plainN])
      clear R
      go_wp2_with fail
      refine (clone_any _ _ (hex _)).mono ?_
      rintro e w1 ⟨rfl, hb⟩
      go_wp2_with fail
      go_ret2
      exact ⟨ret_pw (by rw [extract_eq, HF.out]) (by rw [HF.out]; omega), hb⟩
end Go.Proofs.YtncnogndopgknaaGreatDoor
