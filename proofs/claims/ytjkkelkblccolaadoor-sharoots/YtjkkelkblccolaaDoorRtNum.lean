/- The roots' bits, one by one, by the kernel. -/
import Derived.Test.YtjkkelkblccolaaDoorRtMath
namespace Go.Proofs.YtjkkelkblccolaaDoor

theorem third0 : bitsL 2 true = 1116352408 := by decide +kernel
theorem third1 : bitsL 3 true = 1899447441 := by decide +kernel
theorem third2 : bitsL 5 true = 3049323471 := by decide +kernel
theorem third3 : bitsL 7 true = 3921009573 := by decide +kernel
theorem third4 : bitsL 11 true = 961987163 := by decide +kernel
theorem third5 : bitsL 13 true = 1508970993 := by decide +kernel
theorem third6 : bitsL 17 true = 2453635748 := by decide +kernel
theorem third7 : bitsL 19 true = 2870763221 := by decide +kernel
theorem third8 : bitsL 23 true = 3624381080 := by decide +kernel
theorem third9 : bitsL 29 true = 310598401 := by decide +kernel
theorem third10 : bitsL 31 true = 607225278 := by decide +kernel
theorem third11 : bitsL 37 true = 1426881987 := by decide +kernel
theorem third12 : bitsL 41 true = 1925078388 := by decide +kernel
theorem third13 : bitsL 43 true = 2162078206 := by decide +kernel
theorem third14 : bitsL 47 true = 2614888103 := by decide +kernel
theorem third15 : bitsL 53 true = 3248222580 := by decide +kernel
theorem third16 : bitsL 59 true = 3835390401 := by decide +kernel
theorem third17 : bitsL 61 true = 4022224774 := by decide +kernel
theorem third18 : bitsL 67 true = 264347078 := by decide +kernel
theorem third19 : bitsL 71 true = 604807628 := by decide +kernel
theorem third20 : bitsL 73 true = 770255983 := by decide +kernel
theorem third21 : bitsL 79 true = 1249150122 := by decide +kernel
theorem third22 : bitsL 83 true = 1555081692 := by decide +kernel
theorem third23 : bitsL 89 true = 1996064986 := by decide +kernel
theorem third24 : bitsL 97 true = 2554220882 := by decide +kernel
theorem third25 : bitsL 101 true = 2821834349 := by decide +kernel
theorem third26 : bitsL 103 true = 2952996808 := by decide +kernel
theorem third27 : bitsL 107 true = 3210313671 := by decide +kernel
theorem third28 : bitsL 109 true = 3336571891 := by decide +kernel
theorem third29 : bitsL 113 true = 3584528711 := by decide +kernel
theorem third30 : bitsL 127 true = 113926993 := by decide +kernel
theorem third31 : bitsL 131 true = 338241895 := by decide +kernel
theorem third32 : bitsL 137 true = 666307205 := by decide +kernel
theorem third33 : bitsL 139 true = 773529912 := by decide +kernel
theorem third34 : bitsL 149 true = 1294757372 := by decide +kernel
theorem third35 : bitsL 151 true = 1396182291 := by decide +kernel
theorem third36 : bitsL 157 true = 1695183700 := by decide +kernel
theorem third37 : bitsL 163 true = 1986661051 := by decide +kernel
theorem third38 : bitsL 167 true = 2177026350 := by decide +kernel
theorem third39 : bitsL 173 true = 2456956037 := by decide +kernel
theorem third40 : bitsL 179 true = 2730485921 := by decide +kernel
theorem third41 : bitsL 181 true = 2820302411 := by decide +kernel
theorem third42 : bitsL 191 true = 3259730800 := by decide +kernel
theorem third43 : bitsL 193 true = 3345764771 := by decide +kernel
theorem third44 : bitsL 197 true = 3516065817 := by decide +kernel
theorem third45 : bitsL 199 true = 3600352804 := by decide +kernel
theorem third46 : bitsL 211 true = 4094571909 := by decide +kernel
theorem third47 : bitsL 223 true = 275423344 := by decide +kernel
theorem third48 : bitsL 227 true = 430227734 := by decide +kernel
theorem third49 : bitsL 229 true = 506948616 := by decide +kernel
theorem third50 : bitsL 233 true = 659060556 := by decide +kernel
theorem third51 : bitsL 239 true = 883997877 := by decide +kernel
theorem third52 : bitsL 241 true = 958139571 := by decide +kernel
theorem third53 : bitsL 251 true = 1322822218 := by decide +kernel
theorem third54 : bitsL 257 true = 1537002063 := by decide +kernel
theorem third55 : bitsL 263 true = 1747873779 := by decide +kernel
theorem third56 : bitsL 269 true = 1955562222 := by decide +kernel
theorem third57 : bitsL 271 true = 2024104815 := by decide +kernel
theorem third58 : bitsL 277 true = 2227730452 := by decide +kernel
theorem third59 : bitsL 281 true = 2361852424 := by decide +kernel
theorem third60 : bitsL 283 true = 2428436474 := by decide +kernel
theorem third61 : bitsL 293 true = 2756734187 := by decide +kernel
theorem third62 : bitsL 307 true = 3204031479 := by decide +kernel
theorem third63 : bitsL 311 true = 3329325298 := by decide +kernel
theorem roots_third : primesL.map (bitsL · true) = S.K := by
  simp only [primesL, List.map_cons, List.map_nil, third0, third1, third2, third3, third4, third5, third6, third7, third8, third9, third10, third11, third12, third13, third14, third15, third16, third17, third18, third19, third20, third21, third22, third23, third24, third25, third26, third27, third28, third29, third30, third31, third32, third33, third34, third35, third36, third37, third38, third39, third40, third41, third42, third43, third44, third45, third46, third47, third48, third49, third50, third51, third52, third53, third54, third55, third56, third57, third58, third59, third60, third61, third62, third63]
  rfl
theorem roots_first : (primesL.take 8).map (bitsL · false) = S.First := by decide +kernel
end Go.Proofs.YtjkkelkblccolaaDoor
