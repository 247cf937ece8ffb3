/- SHA-256 by numbers: plain. -/
import Derived.Test.YtkbgmdabmebdhaaGreatDoorOcM
namespace Go.Proofs.YtkbgmdabmebdhaaGreatDoor.sha
open Go.Proofs.YtkbgmdabmebdhaaGreatDoor.oc (be be_length)
def rotr (x k : Nat) : Nat := (x >>> k ||| x <<< (32 - k)) % 4294967296
def sg0 (a : Nat) : Nat := rotr a 7 ^^^ rotr a 18 ^^^ a >>> 3
def sg1 (b : Nat) : Nat := rotr b 17 ^^^ rotr b 19 ^^^ b >>> 10
def nextW (w : List Nat) (t : Nat) : Nat := (sg1 (w.getD (t + 14) 0) + w.getD (t + 9) 0 + sg0 (w.getD (t + 1) 0) + w.getD t 0) % 4294967296
def schedN : Nat → List Nat → List Nat
  | 0, w => w
  | k + 1, w => schedN k w ++ [nextW (schedN k w) k]
def wordN (l : List UInt8) : Nat := l.foldl (fun n c => n * 256 + c.toNat) 0
def words16 (b : List UInt8) (k : Nat) : List Nat := (List.range k).map fun t => wordN ((b.drop (4 * t)).take 4)
def sched (b : List UInt8) : List Nat := schedN 48 (words16 b 16)
structure S8 where
  a : Nat
  b : Nat
  c : Nat
  d : Nat
  e : Nat
  f : Nat
  g : Nat
  h : Nat
deriving DecidableEq
def chf (e f g : Nat) : Nat := (e &&& f) ^^^ ((e ^^^ 4294967295) &&& g)
def maj (a b c : Nat) : Nat := (a &&& b) ^^^ (a &&& c) ^^^ (b &&& c)
def bs1 (e : Nat) : Nat := rotr e 6 ^^^ rotr e 11 ^^^ rotr e 25
def bs0 (a : Nat) : Nat := rotr a 2 ^^^ rotr a 13 ^^^ rotr a 22
def tA (x : S8) (k : Nat) : Nat := x.h + bs1 x.e + chf x.e x.f x.g + k
def tB (x : S8) : Nat := bs0 x.a + maj x.a x.b x.c
def stepS (x : S8) (k : Nat) : S8 := ⟨(tA x k + tB x) % 4294967296, x.a, x.b, x.c, (x.d + tA x k) % 4294967296, x.e, x.f, x.g⟩
def kTab : List Nat := [
  0x428a2f98, 0x71374491, 0xb5c0fbcf, 0xe9b5dba5, 0x3956c25b, 0x59f111f1, 0x923f82a4, 0xab1c5ed5,
  0xd807aa98, 0x12835b01, 0x243185be, 0x550c7dc3, 0x72be5d74, 0x80deb1fe, 0x9bdc06a7, 0xc19bf174,
  0xe49b69c1, 0xefbe4786, 0x0fc19dc6, 0x240ca1cc, 0x2de92c6f, 0x4a7484aa, 0x5cb0a9dc, 0x76f988da,
  0x983e5152, 0xa831c66d, 0xb00327c8, 0xbf597fc7, 0xc6e00bf3, 0xd5a79147, 0x06ca6351, 0x14292967,
  0x27b70a85, 0x2e1b2138, 0x4d2c6dfc, 0x53380d13, 0x650a7354, 0x766a0abb, 0x81c2c92e, 0x92722c85,
  0xa2bfe8a1, 0xa81a664b, 0xc24b8b70, 0xc76c51a3, 0xd192e819, 0xd6990624, 0xf40e3585, 0x106aa070,
  0x19a4c116, 0x1e376c08, 0x2748774c, 0x34b0bcb5, 0x391c0cb3, 0x4ed8aa4a, 0x5b9cca4f, 0x682e6ff3,
  0x748f82ee, 0x78a5636f, 0x84c87814, 0x8cc70208, 0x90befffa, 0xa4506ceb, 0xbef9a3f7, 0xc67178f2]
def h0 : S8 := ⟨0x6a09e667, 0xbb67ae85, 0x3c6ef372, 0xa54ff53a, 0x510e527f, 0x9b05688c, 0x1f83d9ab, 0x5be0cd19⟩
def runS (v : S8) (w : List Nat) : Nat → S8
  | 0 => v
  | t + 1 => stepS (runS v w t) ((kTab.getD t 0 + w.getD t 0) % 4294967296)
def addS (x v : S8) : S8 := ⟨(x.a + v.a) % 4294967296, (x.b + v.b) % 4294967296, (x.c + v.c) % 4294967296, (x.d + v.d) % 4294967296, (x.e + v.e) % 4294967296, (x.f + v.f) % 4294967296, (x.g + v.g) % 4294967296, (x.h + v.h) % 4294967296⟩
def blockS (v : S8) (b : List UInt8) : S8 := addS (runS v (sched b) 64) v
/-- The state behind n blocks of the bytes. -/
def shaRun (v : S8) (l : List UInt8) : Nat → S8
  | 0 => v
  | n + 1 => blockS (shaRun v l n) ((l.drop (64 * n)).take 64)
def noughts (n : Nat) : Nat := 63 - (n + 8) % 64
def fillB (n : Nat) : List UInt8 := (128 : UInt8) :: (List.replicate (noughts n) 0 ++ be 8 ((n * 8 : Nat) : Int))
def S8.list (x : S8) : List Nat := [x.a, x.b, x.c, x.d, x.e, x.f, x.g, x.h]
def outS (x : S8) : List UInt8 := x.list.flatMap fun n : Nat => be 4 (n : Int)
def padB (s : List UInt8) : List UInt8 := s ++ fillB s.length
def shaB (s : List UInt8) : List UInt8 := outS (shaRun h0 (padB s) ((padB s).length / 64))
def hexD (n : Nat) : UInt8 := [48, 49, 50, 51, 52, 53, 54, 55, 56, 57, 97, 98, 99, 100, 101, 102].getD n 0
def hexB (s : List UInt8) : List UInt8 := s.flatMap fun c => [hexD (c.toNat / 16), hexD (c.toNat % 16)]
end Go.Proofs.YtkbgmdabmebdhaaGreatDoor.sha
