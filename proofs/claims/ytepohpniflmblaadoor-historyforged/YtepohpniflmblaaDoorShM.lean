
/-
  Plain reckoning: SHA-256 on lists of numbers, step by step as package sha takes it. Nothing of the model.
-/
set_option maxRecDepth 100000
namespace Go.Proofs.YtepohpniflmblaaDoor

/-- Turned to the right by n, of 32 bits. -/
def rotr (x n : Nat) : Nat := x / 2 ^ n ||| x * 2 ^ (32 - n) % 4294967296
def sg0 (x : Nat) : Nat := rotr x 7 ^^^ rotr x 18 ^^^ x / 8
def sg1 (x : Nat) : Nat := rotr x 17 ^^^ rotr x 19 ^^^ x / 1024
def bs0 (x : Nat) : Nat := rotr x 2 ^^^ rotr x 13 ^^^ rotr x 22
def bs1 (x : Nat) : Nat := rotr x 6 ^^^ rotr x 11 ^^^ rotr x 25
def chq (e f g : Nat) : Nat := (e &&& f) ^^^ ((4294967295 - e) &&& g)
def mjq (a b c : Nat) : Nat := (a &&& b) ^^^ (a &&& c) ^^^ (b &&& c)

structure S8 where
  a : Nat
  b : Nat
  c : Nat
  d : Nat
  e : Nat
  f : Nat
  g : Nat
  h : Nat

def S8.ok (s : S8) : Prop := s.a < 4294967296 ∧ s.b < 4294967296 ∧ s.c < 4294967296 ∧ s.d < 4294967296 ∧ s.e < 4294967296 ∧ s.f < 4294967296 ∧ s.g < 4294967296 ∧ s.h < 4294967296

def tq (s : S8) (k w : Nat) : Nat := ((((s.h + bs1 s.e) % 4294967296 + chq s.e s.f s.g) % 4294967296 + k) % 4294967296 + w) % 4294967296
def uq (s : S8) : Nat := (bs0 s.a + mjq s.a s.b s.c) % 4294967296
def rnd (s : S8) (k w : Nat) : S8 := ⟨(tq s k w + uq s) % 4294967296, s.a, s.b, s.c, (s.d + tq s k w) % 4294967296, s.e, s.f, s.g⟩
def rnds (K W : List Nat) (s : S8) : Nat → S8
  | 0 => s
  | k + 1 => rnd (rnds K W s k) (K.getD k 0) (W.getD k 0)
def mixF (K : List Nat) (s : S8) (W : List Nat) : S8 :=
  ⟨(s.a + (rnds K W s 64).a) % 4294967296, (s.b + (rnds K W s 64).b) % 4294967296, (s.c + (rnds K W s 64).c) % 4294967296, (s.d + (rnds K W s 64).d) % 4294967296,
   (s.e + (rnds K W s 64).e) % 4294967296, (s.f + (rnds K W s 64).f) % 4294967296, (s.g + (rnds K W s 64).g) % 4294967296, (s.h + (rnds K W s 64).h) % 4294967296⟩

/-- The words of a block's first k bytes. -/
def pwL (z : List Nat) : Nat → List Nat
  | 0 => List.replicate 64 0
  | k + 1 => (pwL z k).set (k / 4) ((pwL z k).getD (k / 4) 0 * 256 % 4294967296 ||| z.getD k 0)
/-- k words more. -/
def exW (l : List Nat) (k : Nat) : Nat := (((l.getD k 0 + sg0 (l.getD (k + 1) 0)) % 4294967296 + l.getD (k + 9) 0) % 4294967296 + sg1 (l.getD (k + 14) 0)) % 4294967296
def exL (l : List Nat) : Nat → List Nat
  | 0 => l
  | k + 1 => (exL l k).set (k + 16) (exW (exL l k) k)
def spreadF (z : List Nat) : List Nat := exL (pwL z 64) 48

/-- What is laid behind a message of n bytes. -/
def padFree (n : Nat) : Nat := if 64 - n % 64 < 9 then 64 - n % 64 + 64 else 64 - n % 64
def padL (n : Nat) : Nat → List Nat
  | 0 => (List.replicate (padFree n) 0).set 0 128
  | k + 1 => (padL n k).set (padFree n - 1 - k) (n * 8 / 2 ^ (8 * k) % 256)
def padded (m : List Nat) : List Nat := m ++ padL m.length 8

def blocks (K : List Nat) (p : List Nat) (s : S8) : Nat → S8
  | 0 => s
  | k + 1 => mixF K (blocks K p s k) (spreadF ((p.drop (k * 64)).take 64))
def start8 : S8 := ⟨1779033703, 3144134277, 1013904242, 2773480762, 1359893119, 2600822924, 528734635, 1541459225⟩
def S8.at (s : S8) : Nat → Nat
  | 0 => s.a
  | 1 => s.b
  | 2 => s.c
  | 3 => s.d
  | 4 => s.e
  | 5 => s.f
  | 6 => s.g
  | _ => s.h
def tellF (s : S8) : List Nat := (List.range 32).map fun i => s.at (i / 4) / 2 ^ (8 * (3 - i % 4)) % 256
def hashF (K : List Nat) (m : List Nat) : List Nat := tellF (blocks K (padded m) start8 ((padded m).length / 64))

/-- The round words. -/
def KW : List Nat := [1116352408, 1899447441, 3049323471, 3921009573, 961987163, 1508970993, 2453635748, 2870763221, 3624381080, 310598401, 607225278, 1426881987, 1925078388, 2162078206, 2614888103, 3248222580, 3835390401, 4022224774, 264347078, 604807628, 770255983, 1249150122, 1555081692, 1996064986, 2554220882, 2821834349, 2952996808, 3210313671, 3336571891, 3584528711, 113926993, 338241895, 666307205, 773529912, 1294757372, 1396182291, 1695183700, 1986661051, 2177026350, 2456956037, 2730485921, 2820302411, 3259730800, 3345764771, 3516065817, 3600352804, 4094571909, 275423344, 430227734, 506948616, 659060556, 883997877, 958139571, 1322822218, 1537002063, 1747873779, 1955562222, 2024104815, 2227730452, 2361852424, 2428436474, 2756734187, 3204031479, 3329325298]

theorem abc : hashF KW [97, 98, 99] = [186, 120, 22, 191, 143, 1, 207, 234, 65, 65, 64, 222, 93, 174, 34, 35, 176, 3, 97, 163, 150, 23, 122, 156, 180, 16, 255, 97, 242, 0, 21, 173] := by decide +kernel
end Go.Proofs.YtepohpniflmblaaDoor
