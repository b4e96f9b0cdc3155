/- Ported from another seat (wip/hash/N.src, by wip/port.py): contracts that this chapter calls. -/
import Derived.Test.YtcdcnklfcmoiiaaDoorProg
import Derived.Test.YtcdcnklfcmoiiaaDoorChecked
import Derived.Laws.BitsAllLaws
namespace Go.Proofs.YtcdcnklfcmoiiaaDoor
set_option linter.unusedVariables false
set_option linter.unusedSimpArgs false
namespace Hs
def add32 (a b : Nat) : Nat := (a + b) % 4294967296
set_option maxRecDepth 100000 in
theorem add32_lt (a b : Nat) : add32 a b < 4294967296 := Nat.mod_lt _ (by decide)
def rotr (x n : Nat) : Nat := (x / 2 ^ n) ||| (x * 2 ^ (32 - n) % 4294967296)
set_option maxRecDepth 100000 in
theorem rotr_lt (x n : Nat) (hx : x < 4294967296) : rotr x n < 4294967296 := by
  unfold rotr
  have h : x / 2 ^ n < 2 ^ 32 := Nat.lt_of_le_of_lt (Nat.div_le_self _ _) (by simpa using hx)
  have h2 : x * 2 ^ (32 - n) % 4294967296 < 2 ^ 32 := Nat.mod_lt _ (by decide)
  have := Nat.or_lt_two_pow h h2
  simpa using this
set_option maxRecDepth 100000 in
theorem xor32 {a b : Nat} (ha : a < 4294967296) (hb : b < 4294967296) : a ^^^ b < 4294967296 := Nat.xor_lt_two_pow (n := 32) ha hb
set_option maxRecDepth 100000 in
theorem and32 {a b : Nat} (hb : b < 4294967296) : a &&& b < 4294967296 := Nat.and_lt_two_pow (n := 32) _ hb
def sg0 (x : Nat) : Nat := (rotr x 7 ^^^ rotr x 18) ^^^ (x / 2 ^ 3)
def sg1 (x : Nat) : Nat := (rotr x 17 ^^^ rotr x 19) ^^^ (x / 2 ^ 10)
/-- The t-th of the first 16 words of a block. -/
def word (b : List Nat) (t : Nat) : Nat := ((b.getD (4 * t) 0 * 2 ^ 24 ||| b.getD (4 * t + 1) 0 * 2 ^ 16) ||| b.getD (4 * t + 2) 0 * 2 ^ 8) ||| b.getD (4 * t + 3) 0
/-- The next word of the schedule. -/
def nextW (b : List Nat) (l : List Nat) (t : Nat) : Nat :=
  if t < 16 then word b t else add32 (add32 (add32 (l.getD (t - 16) 0) (sg0 (l.getD (t - 15) 0))) (l.getD (t - 7) 0)) (sg1 (l.getD (t - 2) 0))
/-- The first t words of the schedule. -/
def sched (b : List Nat) : Nat → List Nat
  | 0 => []
  | t + 1 => sched b t ++ [nextW b (sched b t) t]
set_option maxRecDepth 100000 in
theorem sched_len (b : List Nat) : ∀ t, (sched b t).length = t
  | 0 => rfl
  | t + 1 => by rw [sched, List.length_append, sched_len b t]; rfl
set_option maxRecDepth 100000 in
theorem word_lt (b : List Nat) (t : Nat) (h : ∀ k, b.getD k 0 < 256) : word b t < 4294967296 := by
  unfold word
  have h0 := h (4 * t); have h1 := h (4 * t + 1); have h2 := h (4 * t + 2); have h3 := h (4 * t + 3)
  exact Nat.or_lt_two_pow (n := 32) (Nat.or_lt_two_pow (n := 32) (Nat.or_lt_two_pow (n := 32) (by omega) (by omega)) (by omega)) (by omega)
set_option maxRecDepth 100000 in
theorem nextW_lt (b l : List Nat) (t : Nat) (h : ∀ k, b.getD k 0 < 256) : nextW b l t < 4294967296 := by
  unfold nextW
  split
  · exact word_lt b t h
  · exact add32_lt _ _
set_option maxRecDepth 100000 in
theorem sched_lt (b : List Nat) (h : ∀ k, b.getD k 0 < 256) : ∀ t, ∀ x ∈ sched b t, x < 4294967296
  | 0 => by simp [sched]
  | t + 1 => by
    intro x hx
    rw [sched, List.mem_append] at hx
    rcases hx with hx | hx
    · exact sched_lt b h t x hx
    · simp at hx; subst hx; exact nextW_lt _ _ _ h
set_option maxRecDepth 100000 in
theorem getD_lt {l : List Nat} {n : Nat} (hn : 0 < n) (h : ∀ x ∈ l, x < n) (k : Nat) : l.getD k 0 < n := by
  rw [List.getD_eq_getElem?_getD]
  by_cases hk : k < l.length
  · rw [List.getElem?_eq_getElem hk]; exact h _ (List.getElem_mem hk)
  · rw [List.getElem?_eq_none (by omega)]; exact hn
structure St where
  a : Nat
  b : Nat
  c : Nat
  d : Nat
  e : Nat
  f : Nat
  g : Nat
  h : Nat
structure St.Ok (s : St) : Prop where
  a : s.a < 4294967296
  b : s.b < 4294967296
  c : s.c < 4294967296
  d : s.d < 4294967296
  e : s.e < 4294967296
  f : s.f < 4294967296
  g : s.g < 4294967296
  h : s.h < 4294967296
def bsg1 (x : Nat) : Nat := (rotr x 6 ^^^ rotr x 11) ^^^ rotr x 25
def bsg0 (x : Nat) : Nat := (rotr x 2 ^^^ rotr x 13) ^^^ rotr x 22
def ch (e f g : Nat) : Nat := (e &&& f) ^^^ ((e ^^^ 4294967295) &&& g)
def maj (a b c : Nat) : Nat := ((a &&& b) ^^^ (a &&& c)) ^^^ (b &&& c)
def tx (s : St) (k w : Nat) : Nat := add32 (add32 (add32 (add32 s.h (bsg1 s.e)) (ch s.e s.f s.g)) k) w
def ty (s : St) : Nat := add32 (bsg0 s.a) (maj s.a s.b s.c)
def rnd (s : St) (k w : Nat) : St := ⟨add32 (tx s k w) (ty s), s.a, s.b, s.c, add32 s.d (tx s k w), s.e, s.f, s.g⟩
set_option maxRecDepth 100000 in
theorem rnd_ok {s : St} (h : s.Ok) (k w : Nat) : (rnd s k w).Ok := ⟨add32_lt _ _, h.a, h.b, h.c, add32_lt _ _, h.e, h.f, h.g⟩
def KS : List Nat := [0x428a2f98, 0x71374491, 0xb5c0fbcf, 0xe9b5dba5, 0x3956c25b, 0x59f111f1, 0x923f82a4, 0xab1c5ed5, 0xd807aa98, 0x12835b01, 0x243185be, 0x550c7dc3, 0x72be5d74, 0x80deb1fe, 0x9bdc06a7, 0xc19bf174, 0xe49b69c1, 0xefbe4786, 0x0fc19dc6, 0x240ca1cc, 0x2de92c6f, 0x4a7484aa, 0x5cb0a9dc, 0x76f988da, 0x983e5152, 0xa831c66d, 0xb00327c8, 0xbf597fc7, 0xc6e00bf3, 0xd5a79147, 0x06ca6351, 0x14292967, 0x27b70a85, 0x2e1b2138, 0x4d2c6dfc, 0x53380d13, 0x650a7354, 0x766a0abb, 0x81c2c92e, 0x92722c85, 0xa2bfe8a1, 0xa81a664b, 0xc24b8b70, 0xc76c51a3, 0xd192e819, 0xd6990624, 0xf40e3585, 0x106aa070, 0x19a4c116, 0x1e376c08, 0x2748774c, 0x34b0bcb5, 0x391c0cb3, 0x4ed8aa4a, 0x5b9cca4f, 0x682e6ff3, 0x748f82ee, 0x78a5636f, 0x84c87814, 0x8cc70208, 0x90befffa, 0xa4506ceb, 0xbef9a3f7, 0xc67178f2]
/-- The state after t rounds. -/
def rounds (ws : List Nat) (s : St) : Nat → St
  | 0 => s
  | t + 1 => rnd (rounds ws s t) (KS.getD t 0) (ws.getD t 0)
set_option maxRecDepth 100000 in
theorem rounds_ok (ws : List Nat) {s : St} (h : s.Ok) : ∀ t, (rounds ws s t).Ok
  | 0 => h
  | t + 1 => rnd_ok (rounds_ok ws h t) _ _
def St.plus (s v : St) : St := ⟨add32 s.a v.a, add32 s.b v.b, add32 s.c v.c, add32 s.d v.d, add32 s.e v.e, add32 s.f v.f, add32 s.g v.g, add32 s.h v.h⟩
set_option maxRecDepth 100000 in
theorem St.plus_ok (s v : St) : (s.plus v).Ok := ⟨add32_lt _ _, add32_lt _ _, add32_lt _ _, add32_lt _ _, add32_lt _ _, add32_lt _ _, add32_lt _ _, add32_lt _ _⟩
/-- The state after one more block. -/
def comp (s : St) (b : List Nat) : St := s.plus (rounds (sched b 64) s 64)
set_option maxRecDepth 100000 in
theorem comp_ok (s : St) (b : List Nat) : (comp s b).Ok := St.plus_ok _ _
def st0 : St := ⟨0x6a09e667, 0xbb67ae85, 0x3c6ef372, 0xa54ff53a, 0x510e527f, 0x9b05688c, 0x1f83d9ab, 0x5be0cd19⟩
set_option maxRecDepth 100000 in
theorem st0_ok : st0.Ok := by constructor <;> decide
/-- The state after n blocks of bytes. -/
def blocks (l : List Nat) : Nat → St
  | 0 => st0
  | n + 1 => comp (blocks l n) ((l.drop (64 * n)).take 64)
set_option maxRecDepth 100000 in
theorem blocks_ok (l : List Nat) : ∀ n, (blocks l n).Ok
  | 0 => st0_ok
  | n + 1 => comp_ok _ _
set_option maxRecDepth 100000 in
theorem blocks_same (l m : List Nat) (N : Nat) (h : l.take (64 * N) = m.take (64 * N)) : ∀ n, n ≤ N → blocks l n = blocks m n
  | 0, _ => rfl
  | n + 1, hn => by
    rw [blocks, blocks, blocks_same l m N h n (by omega)]
    congr 1
    have e := congrArg (List.drop (64 * n)) h
    rw [List.drop_take, List.drop_take] at e
    have e2 := congrArg (List.take 64) e
    rw [List.take_take, List.take_take, Nat.min_eq_left (by omega)] at e2
    exact e2
/-- The bytes of a number, the highest first. -/
def be8 (n : Nat) : List Nat := [n / 2 ^ 56 % 256, n / 2 ^ 48 % 256, n / 2 ^ 40 % 256, n / 2 ^ 32 % 256, n / 2 ^ 24 % 256, n / 2 ^ 16 % 256, n / 2 ^ 8 % 256, n % 256]
/-- How many zero bytes go behind the first padding byte. -/
def zeros (n : Nat) : Nat := (119 - n % 64) % 64
def padded (l : List Nat) : List Nat := l ++ [128] ++ List.replicate (zeros l.length) 0 ++ be8 (8 * l.length)
set_option maxRecDepth 100000 in
theorem padded_len (l : List Nat) : (padded l).length % 64 = 0 := by
  unfold padded zeros be8
  simp
  omega
def be4 (n : Nat) : List Nat := [n / 2 ^ 24 % 256, n / 2 ^ 16 % 256, n / 2 ^ 8 % 256, n % 256]
def St.bytes (s : St) : List Nat := be4 s.a ++ be4 s.b ++ be4 s.c ++ be4 s.d ++ be4 s.e ++ be4 s.f ++ be4 s.g ++ be4 s.h
set_option maxRecDepth 100000 in
theorem St.bytes_len (s : St) : s.bytes.length = 32 := rfl
/-- The hash of bytes. -/
def sha (l : List Nat) : List Nat := (blocks (padded l) ((padded l).length / 64)).bytes
end Hs
end Go.Proofs.YtcdcnklfcmoiiaaDoor
