/- The digest as pure functions: words of 32 bits, a block's words, how a block is tied in, what makes a message whole. -/
import Derived.WalkKit
namespace Go.Proofs.YteefpbeglmnilaaDoor
namespace Sha

/-- A word turned to the right. -/
def rr (x : BitVec 32) (n : Nat) : BitVec 32 := (x <<< (32 - n)) ||| (x >>> n)
def byt (x : Int) : BitVec 32 := BitVec.ofNat 32 x.toNat
def s0 (x : BitVec 32) : BitVec 32 := rr x 7 ^^^ rr x 18 ^^^ (x >>> 3)
def s1 (x : BitVec 32) : BitVec 32 := rr x 17 ^^^ rr x 19 ^^^ (x >>> 10)
def S0 (x : BitVec 32) : BitVec 32 := rr x 2 ^^^ rr x 13 ^^^ rr x 22
def S1 (x : BitVec 32) : BitVec 32 := rr x 6 ^^^ rr x 11 ^^^ rr x 25
def ch (e f g : BitVec 32) : BitVec 32 := (e &&& f) ||| (~~~ e &&& g)
def mj (a b c : BitVec 32) : BitVec 32 := (a &&& b) ||| (a &&& c) ||| (b &&& c)

/-- The n-th of a row of words. -/
def at_ (l : List (BitVec 32)) (i : Nat) : BitVec 32 := l.getD i 0#32

/-- A block's first words, behind k bytes. -/
def front (l : List Int) : Nat → List (BitVec 32)
  | 0 => List.replicate 64 0#32
  | k + 1 => (front l k).set (k / 4) ((at_ (front l k) (k / 4) <<< 8) ||| byt (l.getD k 0))

/-- The next word of a row. -/
def nextW (o : List (BitVec 32)) (i : Nat) : BitVec 32 := at_ o (i - 16) + at_ o (i - 7) + s0 (at_ o (i - 15)) + s1 (at_ o (i - 2))

/-- k words more. -/
def more (o : List (BitVec 32)) : Nat → List (BitVec 32)
  | 0 => o
  | k + 1 => (more o k).set (16 + k) (nextW (more o k) (16 + k))

/-- A block's 64 words. -/
def spread (l : List Int) : List (BitVec 32) := more (front l 64) 48

/-- The eight words. -/
structure R where
  a : BitVec 32
  b : BitVec 32
  c : BitVec 32
  d : BitVec 32
  e : BitVec 32
  f : BitVec 32
  g : BitVec 32
  h : BitVec 32

def R.list (r : R) : List (BitVec 32) := [r.a, r.b, r.c, r.d, r.e, r.f, r.g, r.h]

/-- What is tied in, one time. -/
def tT (r : R) (k w : BitVec 32) : BitVec 32 := r.h + S1 r.e + ch r.e r.f r.g + k + w
def tU (r : R) : BitVec 32 := S0 r.a + mj r.a r.b r.c
def once (r : R) (k w : BitVec 32) : R := ⟨tT r k w + tU r, r.a, r.b, r.c, r.d + tT r k w, r.e, r.f, r.g⟩
def times (K W : List (BitVec 32)) (r : R) : Nat → R
  | 0 => r
  | i + 1 => once (times K W r i) (at_ K i) (at_ W i)
def sum (r s : R) : R := ⟨r.a + s.a, r.b + s.b, r.c + s.c, r.d + s.d, r.e + s.e, r.f + s.f, r.g + s.g, r.h + s.h⟩

/-- A block is tied in. -/
def tie (K : List (BitVec 32)) (r : R) (l : List Int) : R := sum r (times K (spread l) r 64)

theorem front_len (l : List Int) : ∀ k, (front l k).length = 64
  | 0 => by simp [front]
  | k + 1 => by simp [front, front_len l k]
theorem more_len (o : List (BitVec 32)) : ∀ k, (more o k).length = o.length
  | 0 => rfl
  | k + 1 => by simp [more, more_len o k]
theorem spread_len (l : List Int) : (spread l).length = 64 := by rw [spread, more_len, front_len]

/-- The whole blocks of bytes, tied in; n at most. -/
def blocks (K : List (BitVec 32)) : Nat → R → List Int → R
  | 0, r, _ => r
  | n + 1, r, l => if l.length < 64 then r else blocks K n (tie K r (l.take 64)) (l.drop 64)

/-- Behind these bytes: the words behind the whole blocks. -/
def tied (K : List (BitVec 32)) (H : R) (l : List Int) : R := blocks K (l.length / 64) H l
/-- The bytes behind the whole blocks. -/
def part (l : List Int) : List Int := l.drop (l.length / 64 * 64)

/-- A number's eight bytes, the highest first. -/
def hi8 (n : Nat) : List Int := [(n / 72057594037927936 % 256 : Nat), (n / 281474976710656 % 256 : Nat), (n / 1099511627776 % 256 : Nat), (n / 4294967296 % 256 : Nat), (n / 16777216 % 256 : Nat), (n / 65536 % 256 : Nat), (n / 256 % 256 : Nat), (n % 256 : Nat)]

/-- A message made whole blocks. -/
def whole (l : List Int) : List Int := l ++ [128] ++ List.replicate ((120 - (l.length + 1) % 64) % 64) 0 ++ hi8 (8 * l.length)

/-- A word's four bytes, the highest first. -/
def b4 (x : BitVec 32) : List Int := [(x.toNat / 16777216 % 256 : Nat), (x.toNat / 65536 % 256 : Nat), (x.toNat / 256 % 256 : Nat), (x.toNat % 256 : Nat)]
def b32 (r : R) : List Int := b4 r.a ++ b4 r.b ++ b4 r.c ++ b4 r.d ++ b4 r.e ++ b4 r.f ++ b4 r.g ++ b4 r.h

/-- The digest. -/
def digest (K : List (BitVec 32)) (H : R) (l : List Int) : List Int := b32 (tied K H (whole l))

/-- K. -/
def K : List (BitVec 32) := [0x428a2f98, 0x71374491, 0xb5c0fbcf, 0xe9b5dba5, 0x3956c25b, 0x59f111f1, 0x923f82a4, 0xab1c5ed5, 0xd807aa98, 0x12835b01, 0x243185be, 0x550c7dc3, 0x72be5d74, 0x80deb1fe, 0x9bdc06a7, 0xc19bf174, 0xe49b69c1, 0xefbe4786, 0x0fc19dc6, 0x240ca1cc, 0x2de92c6f, 0x4a7484aa, 0x5cb0a9dc, 0x76f988da, 0x983e5152, 0xa831c66d, 0xb00327c8, 0xbf597fc7, 0xc6e00bf3, 0xd5a79147, 0x06ca6351, 0x14292967, 0x27b70a85, 0x2e1b2138, 0x4d2c6dfc, 0x53380d13, 0x650a7354, 0x766a0abb, 0x81c2c92e, 0x92722c85, 0xa2bfe8a1, 0xa81a664b, 0xc24b8b70, 0xc76c51a3, 0xd192e819, 0xd6990624, 0xf40e3585, 0x106aa070, 0x19a4c116, 0x1e376c08, 0x2748774c, 0x34b0bcb5, 0x391c0cb3, 0x4ed8aa4a, 0x5b9cca4f, 0x682e6ff3, 0x748f82ee, 0x78a5636f, 0x84c87814, 0x8cc70208, 0x90befffa, 0xa4506ceb, 0xbef9a3f7, 0xc67178f2]
/-- H. -/
def H : R := ⟨0x6a09e667, 0xbb67ae85, 0x3c6ef372, 0xa54ff53a, 0x510e527f, 0x9b05688c, 0x1f83d9ab, 0x5be0cd19⟩

theorem none_ok : digest K H [] = [0xe3, 0xb0, 0xc4, 0x42, 0x98, 0xfc, 0x1c, 0x14, 0x9a, 0xfb, 0xf4, 0xc8, 0x99, 0x6f, 0xb9, 0x24, 0x27, 0xae, 0x41, 0xe4, 0x64, 0x9b, 0x93, 0x4c, 0xa4, 0x95, 0x99, 0x1b, 0x78, 0x52, 0xb8, 0x55] := by decide +kernel
theorem abc_ok : digest K H [97, 98, 99] = [0xba, 0x78, 0x16, 0xbf, 0x8f, 0x01, 0xcf, 0xea, 0x41, 0x41, 0x40, 0xde, 0x5d, 0xae, 0x22, 0x23, 0xb0, 0x03, 0x61, 0xa3, 0x96, 0x17, 0x7a, 0x9c, 0xb4, 0x10, 0xff, 0x61, 0xf2, 0x00, 0x15, 0xad] := by decide +kernel

end Sha
end Go.Proofs.YteefpbeglmnilaaDoor
