/- SHA-256 as plain functions of lists, in the model's own bit operations. -/
import Derived.WalkKit
import Derived.Laws.BitsAllLaws
namespace Go.Proofs.YtialckmoigcdeaaDoor.S
open Go.RowKit

def ad (a b : Int) : Int := (a + b) % 4294967296
def xo (a b : Int) : Int := bits .xor .u32 a b
def an (a b : Int) : Int := bits .and .u32 a b
def no (a : Int) : Int := bits .xor .u32 4294967295 a
def rot (w : Int) (k : Nat) : Int := bits .or .u32 (w * 2 ^ (32 - k) % 4294967296) (w / 2 ^ k)
def K : List Int := [1116352408, 1899447441, 3049323471, 3921009573, 961987163, 1508970993, 2453635748, 2870763221, 3624381080, 310598401, 607225278, 1426881987, 1925078388, 2162078206, 2614888103, 3248222580, 3835390401, 4022224774, 264347078, 604807628, 770255983, 1249150122, 1555081692, 1996064986, 2554220882, 2821834349, 2952996808, 3210313671, 3336571891, 3584528711, 113926993, 338241895, 666307205, 773529912, 1294757372, 1396182291, 1695183700, 1986661051, 2177026350, 2456956037, 2730485921, 2820302411, 3259730800, 3345764771, 3516065817, 3600352804, 4094571909, 275423344, 430227734, 506948616, 659060556, 883997877, 958139571, 1322822218, 1537002063, 1747873779, 1955562222, 2024104815, 2227730452, 2361852424, 2428436474, 2756734187, 3204031479, 3329325298]
def First : List Int := [1779033703, 3144134277, 1013904242, 2773480762, 1359893119, 2600822924, 528734635, 1541459225]
def s0 (x : Int) : Int := xo (xo (rot x 7) (rot x 18)) (x / 8)
def s1 (x : Int) : Int := xo (xo (rot x 17) (rot x 19)) (x / 1024)
def S0 (x : Int) : Int := xo (xo (rot x 2) (rot x 13)) (rot x 22)
def S1 (x : Int) : Int := xo (xo (rot x 6) (rot x 11)) (rot x 25)
def ch (e f g : Int) : Int := xo (an e f) (an (no e) g)
def mj (a b c : Int) : Int := xo (xo (an a b) (an a c)) (an b c)
/-- One word of the schedule, behind t words. -/
def next (L : List Int) (t : Nat) : Int := (s1 (L.getD (t - 2) 0) + L.getD (t - 7) 0 + s0 (L.getD (t - 15) 0) + L.getD (t - 16) 0) % 4294967296
def sched (B : List Int) : Nat → List Int
  | 0 => B
  | k + 1 => sched B k ++ [next (sched B k) (16 + k)]
def u1 (L : List Int) (x : Int) : Int := L.getD 7 0 + S1 (L.getD 4 0) + ch (L.getD 4 0) (L.getD 5 0) (L.getD 6 0) + x
def u2 (L : List Int) : Int := S0 (L.getD 0 0) + mj (L.getD 0 0) (L.getD 1 0) (L.getD 2 0)
def round (L : List Int) (x : Int) : List Int := [(u1 L x + u2 L) % 4294967296, L.getD 0 0, L.getD 1 0, L.getD 2 0, (L.getD 3 0 + u1 L x) % 4294967296, L.getD 4 0, L.getD 5 0, L.getD 6 0]
def rounds (S : List Int) (W : List Int) : Nat → List Int
  | 0 => S
  | k + 1 => round (rounds S W k) (ad (K.getD k 0) (W.getD k 0))
def plus (a b : List Int) (t : Nat) : List Int := (List.range 8).map fun i => if i < t then ad (a.getD i 0) (b.getD i 0) else a.getD i 0
def block (S B : List Int) : List Int := plus (rounds S (sched B 48) 64) S 8
end Go.Proofs.YtialckmoigcdeaaDoor.S
