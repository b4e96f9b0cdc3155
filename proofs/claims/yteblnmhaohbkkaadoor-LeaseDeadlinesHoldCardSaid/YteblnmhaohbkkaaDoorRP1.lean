import Derived.Test.YteblnmhaohbkkaaDoorProg
import Derived.Test.YteblnmhaohbkkaaDoorChecked
import Derived.Laws.BitsAllLaws
import Derived.WalkKit
import Derived.WalkLawsBesides
import Derived.WalkSpells
import Derived.StillTactics
import Derived.Laws.Pointers
import Derived.Lib.MinMax
import Derived.RowKit3
import Derived.Outline
import Derived.Lib.Hide
import Derived.Lib.QuietBelow
import Derived.OpenShut
import Derived.Deep.QuietTactic
import Derived.BigQuiet
import Derived.StillTailTactics
import Derived.Deep.MidRow
import Derived.Deep.WholeRow
import Derived.Below
import Derived.Laws.OwnMore
import Derived.Deep.Draws
import Derived.Laws.Rows
import Derived.Laws.CopyOwn
namespace Go.Proofs.YteblnmhaohbkkaaDoor
set_option linter.unusedVariables false
set_option linter.unusedSimpArgs false
set_option linter.unusedSectionVars false
section
namespace Hs
def pol : Nat := 75628553
def dbl (r : Nat) : Nat := (2 * r % 1099511627776) ^^^ (if r.testBit 39 then pol else 0)
def dblN : Nat → Nat → Nat
  | 0, r => r
  | n + 1, r => dblN n (dbl r)
def mul (a b : Nat) : Nat := if b = 0 then 0 else (if b % 2 = 1 then a else 0) ^^^ mul (dbl a) (b / 2)
termination_by b
decreasing_by omega
set_option maxRecDepth 100000 in
theorem mul_none (a : Nat) : mul a 0 = 0 := by rw [mul, if_pos rfl]
set_option maxRecDepth 100000 in
theorem mul_step (a b : Nat) : mul a b = (if b % 2 = 1 then a else 0) ^^^ mul (dbl a) (b / 2) := by
  by_cases h : b = 0
  · subst h; simp [mul_none]
  · rw [mul, if_neg h]
set_option maxRecDepth 100000 in
theorem mul_one (a : Nat) : mul a 1 = a := by
  rw [mul_step, if_pos (by omega), show 1 / 2 = 0 by omega, mul_none, Nat.xor_zero]
end Hs
end
section
namespace Hs
def step (r b : Nat) : Nat := dbl r ^^^ (if b = 1 then pol else 0)
def stK (r c : Nat) : Nat → Nat
  | 0 => r
  | k + 1 => step (stK r c k) (c / 2 ^ (7 - k) % 2)
def run (r : Nat) (l : List Nat) : Nat := l.foldl (fun r c => stK r c 8) r
def tab (n : Nat) : Nat := dblN 4 (2 ^ 36 * n)
end Hs
end
section
namespace Hs
def add32 (a b : Nat) : Nat := (a + b) % 4294967296
set_option maxRecDepth 100000 in
theorem add32_lt (a b : Nat) : add32 a b < 4294967296 := Nat.mod_lt _ (by decide)
def rotr (x n : Nat) : Nat := (x / 2 ^ n) ||| (x * 2 ^ (32 - n) % 4294967296)
set_option maxRecDepth 100000 in
theorem rotr_lt (x n : Nat) (hx : x < 4294967296) : rotr x n < 4294967296 := by
  unfold rotr
  have h : x / 2 ^ n < 2 ^ 32 := Nat.lt_of_le_of_lt (Nat.div_le_self _ _) (by simpa using hx)
  have h2 : x * 2 ^ (32 - n) % 4294967296 < 2 ^ 32 := Nat.mod_lt _ (by decide)
  have := Nat.or_lt_two_pow h h2
  simpa using this
set_option maxRecDepth 100000 in
theorem xor32 {a b : Nat} (ha : a < 4294967296) (hb : b < 4294967296) : a ^^^ b < 4294967296 := Nat.xor_lt_two_pow (n := 32) ha hb
set_option maxRecDepth 100000 in
theorem and32 {a b : Nat} (hb : b < 4294967296) : a &&& b < 4294967296 := Nat.and_lt_two_pow (n := 32) _ hb
def sg0 (x : Nat) : Nat := (rotr x 7 ^^^ rotr x 18) ^^^ (x / 2 ^ 3)
def sg1 (x : Nat) : Nat := (rotr x 17 ^^^ rotr x 19) ^^^ (x / 2 ^ 10)
def word (b : List Nat) (t : Nat) : Nat := ((b.getD (4 * t) 0 * 2 ^ 24 ||| b.getD (4 * t + 1) 0 * 2 ^ 16) ||| b.getD (4 * t + 2) 0 * 2 ^ 8) ||| b.getD (4 * t + 3) 0
def nextW (b : List Nat) (l : List Nat) (t : Nat) : Nat :=
  if t < 16 then word b t else add32 (add32 (add32 (l.getD (t - 16) 0) (sg0 (l.getD (t - 15) 0))) (l.getD (t - 7) 0)) (sg1 (l.getD (t - 2) 0))
def sched (b : List Nat) : Nat → List Nat
  | 0 => []
  | t + 1 => sched b t ++ [nextW b (sched b t) t]
set_option maxRecDepth 100000 in
theorem sched_len (b : List Nat) : ∀ t, (sched b t).length = t
  | 0 => rfl
  | t + 1 => by rw [sched, List.length_append, sched_len b t]; rfl
set_option maxRecDepth 100000 in
theorem word_lt (b : List Nat) (t : Nat) (h : ∀ k, b.getD k 0 < 256) : word b t < 4294967296 := by
  unfold word
  have h0 := h (4 * t); have h1 := h (4 * t + 1); have h2 := h (4 * t + 2); have h3 := h (4 * t + 3)
  exact Nat.or_lt_two_pow (n := 32) (Nat.or_lt_two_pow (n := 32) (Nat.or_lt_two_pow (n := 32) (by omega) (by omega)) (by omega)) (by omega)
set_option maxRecDepth 100000 in
theorem nextW_lt (b l : List Nat) (t : Nat) (h : ∀ k, b.getD k 0 < 256) : nextW b l t < 4294967296 := by
  unfold nextW
  split
  · exact word_lt b t h
  · exact add32_lt _ _
set_option maxRecDepth 100000 in
theorem sched_lt (b : List Nat) (h : ∀ k, b.getD k 0 < 256) : ∀ t, ∀ x ∈ sched b t, x < 4294967296
  | 0 => by simp [sched]
  | t + 1 => by
    intro x hx
    rw [sched, List.mem_append] at hx
    rcases hx with hx | hx
    · exact sched_lt b h t x hx
    · simp at hx; subst hx; exact nextW_lt _ _ _ h
set_option maxRecDepth 100000 in
theorem getD_lt {l : List Nat} {n : Nat} (hn : 0 < n) (h : ∀ x ∈ l, x < n) (k : Nat) : l.getD k 0 < n := by
  rw [List.getD_eq_getElem?_getD]
  by_cases hk : k < l.length
  · rw [List.getElem?_eq_getElem hk]; exact h _ (List.getElem_mem hk)
  · rw [List.getElem?_eq_none (by omega)]; exact hn
structure St where
  a : Nat
  b : Nat
  c : Nat
  d : Nat
  e : Nat
  f : Nat
  g : Nat
  h : Nat
structure St.Ok (s : St) : Prop where
  a : s.a < 4294967296
  b : s.b < 4294967296
  c : s.c < 4294967296
  d : s.d < 4294967296
  e : s.e < 4294967296
  f : s.f < 4294967296
  g : s.g < 4294967296
  h : s.h < 4294967296
def bsg1 (x : Nat) : Nat := (rotr x 6 ^^^ rotr x 11) ^^^ rotr x 25
def bsg0 (x : Nat) : Nat := (rotr x 2 ^^^ rotr x 13) ^^^ rotr x 22
def ch (e f g : Nat) : Nat := (e &&& f) ^^^ ((e ^^^ 4294967295) &&& g)
def maj (a b c : Nat) : Nat := ((a &&& b) ^^^ (a &&& c)) ^^^ (b &&& c)
def tx (s : St) (k w : Nat) : Nat := add32 (add32 (add32 (add32 s.h (bsg1 s.e)) (ch s.e s.f s.g)) k) w
def ty (s : St) : Nat := add32 (bsg0 s.a) (maj s.a s.b s.c)
def rnd (s : St) (k w : Nat) : St := ⟨add32 (tx s k w) (ty s), s.a, s.b, s.c, add32 s.d (tx s k w), s.e, s.f, s.g⟩
set_option maxRecDepth 100000 in
theorem rnd_ok {s : St} (h : s.Ok) (k w : Nat) : (rnd s k w).Ok := ⟨add32_lt _ _, h.a, h.b, h.c, add32_lt _ _, h.e, h.f, h.g⟩
def KS : List Nat := [0x428a2f98, 0x71374491, 0xb5c0fbcf, 0xe9b5dba5, 0x3956c25b, 0x59f111f1, 0x923f82a4, 0xab1c5ed5, 0xd807aa98, 0x12835b01, 0x243185be, 0x550c7dc3, 0x72be5d74, 0x80deb1fe, 0x9bdc06a7, 0xc19bf174, 0xe49b69c1, 0xefbe4786, 0x0fc19dc6, 0x240ca1cc, 0x2de92c6f, 0x4a7484aa, 0x5cb0a9dc, 0x76f988da, 0x983e5152, 0xa831c66d, 0xb00327c8, 0xbf597fc7, 0xc6e00bf3, 0xd5a79147, 0x06ca6351, 0x14292967, 0x27b70a85, 0x2e1b2138, 0x4d2c6dfc, 0x53380d13, 0x650a7354, 0x766a0abb, 0x81c2c92e, 0x92722c85, 0xa2bfe8a1, 0xa81a664b, 0xc24b8b70, 0xc76c51a3, 0xd192e819, 0xd6990624, 0xf40e3585, 0x106aa070, 0x19a4c116, 0x1e376c08, 0x2748774c, 0x34b0bcb5, 0x391c0cb3, 0x4ed8aa4a, 0x5b9cca4f, 0x682e6ff3, 0x748f82ee, 0x78a5636f, 0x84c87814, 0x8cc70208, 0x90befffa, 0xa4506ceb, 0xbef9a3f7, 0xc67178f2]
def rounds (ws : List Nat) (s : St) : Nat → St
  | 0 => s
  | t + 1 => rnd (rounds ws s t) (KS.getD t 0) (ws.getD t 0)
set_option maxRecDepth 100000 in
theorem rounds_ok (ws : List Nat) {s : St} (h : s.Ok) : ∀ t, (rounds ws s t).Ok
  | 0 => h
  | t + 1 => rnd_ok (rounds_ok ws h t) _ _
def St.plus (s v : St) : St := ⟨add32 s.a v.a, add32 s.b v.b, add32 s.c v.c, add32 s.d v.d, add32 s.e v.e, add32 s.f v.f, add32 s.g v.g, add32 s.h v.h⟩
set_option maxRecDepth 100000 in
theorem St.plus_ok (s v : St) : (s.plus v).Ok := ⟨add32_lt _ _, add32_lt _ _, add32_lt _ _, add32_lt _ _, add32_lt _ _, add32_lt _ _, add32_lt _ _, add32_lt _ _⟩
def comp (s : St) (b : List Nat) : St := s.plus (rounds (sched b 64) s 64)
set_option maxRecDepth 100000 in
theorem comp_ok (s : St) (b : List Nat) : (comp s b).Ok := St.plus_ok _ _
def st0 : St := ⟨0x6a09e667, 0xbb67ae85, 0x3c6ef372, 0xa54ff53a, 0x510e527f, 0x9b05688c, 0x1f83d9ab, 0x5be0cd19⟩
set_option maxRecDepth 100000 in
theorem st0_ok : st0.Ok := by constructor <;> decide
def blocks (l : List Nat) : Nat → St
  | 0 => st0
  | n + 1 => comp (blocks l n) ((l.drop (64 * n)).take 64)
set_option maxRecDepth 100000 in
theorem blocks_ok (l : List Nat) : ∀ n, (blocks l n).Ok
  | 0 => st0_ok
  | n + 1 => comp_ok _ _
set_option maxRecDepth 100000 in
theorem blocks_same (l m : List Nat) (N : Nat) (h : l.take (64 * N) = m.take (64 * N)) : ∀ n, n ≤ N → blocks l n = blocks m n
  | 0, _ => rfl
  | n + 1, hn => by
    rw [blocks, blocks, blocks_same l m N h n (by omega)]
    congr 1
    have e := congrArg (List.drop (64 * n)) h
    rw [List.drop_take, List.drop_take] at e
    have e2 := congrArg (List.take 64) e
    rw [List.take_take, List.take_take, Nat.min_eq_left (by omega)] at e2
    exact e2
def be8 (n : Nat) : List Nat := [n / 2 ^ 56 % 256, n / 2 ^ 48 % 256, n / 2 ^ 40 % 256, n / 2 ^ 32 % 256, n / 2 ^ 24 % 256, n / 2 ^ 16 % 256, n / 2 ^ 8 % 256, n % 256]
def zeros (n : Nat) : Nat := (119 - n % 64) % 64
def padded (l : List Nat) : List Nat := l ++ [128] ++ List.replicate (zeros l.length) 0 ++ be8 (8 * l.length)
def be4 (n : Nat) : List Nat := [n / 2 ^ 24 % 256, n / 2 ^ 16 % 256, n / 2 ^ 8 % 256, n % 256]
def St.bytes (s : St) : List Nat := be4 s.a ++ be4 s.b ++ be4 s.c ++ be4 s.d ++ be4 s.e ++ be4 s.f ++ be4 s.g ++ be4 s.h
set_option maxRecDepth 100000 in
theorem St.bytes_len (s : St) : s.bytes.length = 32 := rfl
def sha (l : List Nat) : List Nat := (blocks (padded l) ((padded l).length / 64)).bytes
end Hs
end
section
namespace Hs
open Go.RowKit
set_option maxRecDepth 100000 in
theorem below_dn {B n : Nat} {a w : World} (h : Below B a w) : Below B a (w.drewN n) := ⟨h.os, h.tape, h.output, h.size, h.block⟩
set_option maxRecDepth 100000 in
theorem bt {w a b : World} (h : Below w.heap.size w a) (k : Below a.heap.size a b) : Below w.heap.size w b := h.trans (k.mono h.size)
set_option maxRecDepth 100000 in
theorem ret_int {k : IntKind} {a b : Int} (h : a = b) : Ending.returned (.int k a) = .returned (.int k b) := by rw [h]
set_option maxRecDepth 100000 in
theorem keep {W W' : World} {b o : Nat} {v : Value} (h : W.cell? ⟨b, o, none⟩ = some v) (hb : Below W.heap.size W W') : W'.cell? ⟨b, o, none⟩ = some v := by
  rw [hb.cell (p := ⟨b, o, none⟩) (block_lt_of_cell h)]; exact h
abbrev bv (x : Nat) : Value := .int .u8 (x : Int)
def BytesA (W : World) (a : Option Addr) (l : List Nat) : Prop := ∀ k, k < l.length → ∃ b off, a = some ⟨b, off, none⟩ ∧ W.cell? ⟨b, off + k, none⟩ = some (bv (l.getD k 0)) ∧ l.getD k 0 < 256
set_option maxRecDepth 100000 in
theorem BytesA.mono {W W' : World} {a : Option Addr} {l : List Nat} (h : BytesA W a l) (hb : Below W.heap.size W W') : BytesA W' a l := by
  intro k hk
  obtain ⟨b, off, e, h1, h2⟩ := h k hk
  exact ⟨b, off, e, keep h1 hb, h2⟩
end Hs
end
section
namespace Hs
open Go.RowKit
abbrev wv (x : Nat) : Value := .int .u32 (x : Int)
set_option maxRecDepth 100000 in
theorem or_rot (x p q : Nat) (hx : x < 4294967296) : bits .or .u32 ((x : Int) * (p : Int) % 4294967296) ((x : Int) / (q : Int)) = (((x / q) ||| (x * p % 4294967296) : Nat) : Int) := by
  have h1 : (x : Int) * (p : Int) % 4294967296 = ((x * p % 4294967296 : Nat) : Int) := by simp
  have h2 : (x : Int) / (q : Int) = ((x / q : Nat) : Int) := by simp
  rw [h1, h2, Nat.or_comm]
  exact u32_or_nat _ _ (Nat.mod_lt _ (by decide)) (Nat.lt_of_le_of_lt (Nat.div_le_self _ _) hx)
set_option maxRecDepth 100000 in
set_option maxHeartbeats 400000 in
theorem rot7 (x : Nat) (w : World) (hx : x < 4294967296) :
    Calls Tryd.prog 98 #[.int .u32 x, .int .i64 (-7)] w fun e w' => e = .returned (wv (rotr x 7)) ∧ w = w' := by
  have hb : bits .and .u64 (IntKind.u64.wrap (-7)) 31 = 25 := by decide
  have hv : bits .or .u32 ((x : Int) * 33554432 % 4294967296) ((x : Int) / 128) = ((rotr x 7 : Nat) : Int) := or_rot x 33554432 128 hx
  obtain ⟨r, hr⟩ : ∃ r, rotr x 7 = r := ⟨_, rfl⟩
  rw [hr]; rw [hr] at hv
  clear hr
  go_enter Tryd.func98, Tryd.ntmps98
  go_wp2
  go_ret
  exact ⟨rfl, rfl⟩
set_option maxRecDepth 100000 in
set_option maxHeartbeats 400000 in
theorem rot18 (x : Nat) (w : World) (hx : x < 4294967296) :
    Calls Tryd.prog 98 #[.int .u32 x, .int .i64 (-18)] w fun e w' => e = .returned (wv (rotr x 18)) ∧ w = w' := by
  have hb : bits .and .u64 (IntKind.u64.wrap (-18)) 31 = 14 := by decide
  have hv : bits .or .u32 ((x : Int) * 16384 % 4294967296) ((x : Int) / 262144) = ((rotr x 18 : Nat) : Int) := or_rot x 16384 262144 hx
  obtain ⟨r, hr⟩ : ∃ r, rotr x 18 = r := ⟨_, rfl⟩
  rw [hr]; rw [hr] at hv
  clear hr
  go_enter Tryd.func98, Tryd.ntmps98
  go_wp2
  go_ret
  exact ⟨rfl, rfl⟩
set_option maxRecDepth 100000 in
set_option maxHeartbeats 400000 in
theorem rot17 (x : Nat) (w : World) (hx : x < 4294967296) :
    Calls Tryd.prog 98 #[.int .u32 x, .int .i64 (-17)] w fun e w' => e = .returned (wv (rotr x 17)) ∧ w = w' := by
  have hb : bits .and .u64 (IntKind.u64.wrap (-17)) 31 = 15 := by decide
  have hv : bits .or .u32 ((x : Int) * 32768 % 4294967296) ((x : Int) / 131072) = ((rotr x 17 : Nat) : Int) := or_rot x 32768 131072 hx
  obtain ⟨r, hr⟩ : ∃ r, rotr x 17 = r := ⟨_, rfl⟩
  rw [hr]; rw [hr] at hv
  clear hr
  go_enter Tryd.func98, Tryd.ntmps98
  go_wp2
  go_ret
  exact ⟨rfl, rfl⟩
set_option maxRecDepth 100000 in
set_option maxHeartbeats 400000 in
theorem rot19 (x : Nat) (w : World) (hx : x < 4294967296) :
    Calls Tryd.prog 98 #[.int .u32 x, .int .i64 (-19)] w fun e w' => e = .returned (wv (rotr x 19)) ∧ w = w' := by
  have hb : bits .and .u64 (IntKind.u64.wrap (-19)) 31 = 13 := by decide
  have hv : bits .or .u32 ((x : Int) * 8192 % 4294967296) ((x : Int) / 524288) = ((rotr x 19 : Nat) : Int) := or_rot x 8192 524288 hx
  obtain ⟨r, hr⟩ : ∃ r, rotr x 19 = r := ⟨_, rfl⟩
  rw [hr]; rw [hr] at hv
  clear hr
  go_enter Tryd.func98, Tryd.ntmps98
  go_wp2
  go_ret
  exact ⟨rfl, rfl⟩
set_option maxRecDepth 100000 in
set_option maxHeartbeats 400000 in
theorem rot6 (x : Nat) (w : World) (hx : x < 4294967296) :
    Calls Tryd.prog 98 #[.int .u32 x, .int .i64 (-6)] w fun e w' => e = .returned (wv (rotr x 6)) ∧ w = w' := by
  have hb : bits .and .u64 (IntKind.u64.wrap (-6)) 31 = 26 := by decide
  have hv : bits .or .u32 ((x : Int) * 67108864 % 4294967296) ((x : Int) / 64) = ((rotr x 6 : Nat) : Int) := or_rot x 67108864 64 hx
  obtain ⟨r, hr⟩ : ∃ r, rotr x 6 = r := ⟨_, rfl⟩
  rw [hr]; rw [hr] at hv
  clear hr
  go_enter Tryd.func98, Tryd.ntmps98
  go_wp2
  go_ret
  exact ⟨rfl, rfl⟩
set_option maxRecDepth 100000 in
theorem rotq6 (x : Nat) (w : World) (hx : x < 4294967296) :
    Calls Tryd.prog 98 #[.int .u32 x, .int .i64 (-6)] w fun e w' => e = .returned (wv (rotr x 6)) ∧ w' = w := (rot6 x w hx).mono fun _ _ ⟨h, k⟩ => ⟨h, k.symm⟩
set_option maxRecDepth 100000 in
set_option maxHeartbeats 400000 in
theorem rot11 (x : Nat) (w : World) (hx : x < 4294967296) :
    Calls Tryd.prog 98 #[.int .u32 x, .int .i64 (-11)] w fun e w' => e = .returned (wv (rotr x 11)) ∧ w = w' := by
  have hb : bits .and .u64 (IntKind.u64.wrap (-11)) 31 = 21 := by decide
  have hv : bits .or .u32 ((x : Int) * 2097152 % 4294967296) ((x : Int) / 2048) = ((rotr x 11 : Nat) : Int) := or_rot x 2097152 2048 hx
  obtain ⟨r, hr⟩ : ∃ r, rotr x 11 = r := ⟨_, rfl⟩
  rw [hr]; rw [hr] at hv
  clear hr
  go_enter Tryd.func98, Tryd.ntmps98
  go_wp2
  go_ret
  exact ⟨rfl, rfl⟩
set_option maxRecDepth 100000 in
theorem rotq11 (x : Nat) (w : World) (hx : x < 4294967296) :
    Calls Tryd.prog 98 #[.int .u32 x, .int .i64 (-11)] w fun e w' => e = .returned (wv (rotr x 11)) ∧ w' = w := (rot11 x w hx).mono fun _ _ ⟨h, k⟩ => ⟨h, k.symm⟩
set_option maxRecDepth 100000 in
set_option maxHeartbeats 400000 in
theorem rot25 (x : Nat) (w : World) (hx : x < 4294967296) :
    Calls Tryd.prog 98 #[.int .u32 x, .int .i64 (-25)] w fun e w' => e = .returned (wv (rotr x 25)) ∧ w = w' := by
  have hb : bits .and .u64 (IntKind.u64.wrap (-25)) 31 = 7 := by decide
  have hv : bits .or .u32 ((x : Int) * 128 % 4294967296) ((x : Int) / 33554432) = ((rotr x 25 : Nat) : Int) := or_rot x 128 33554432 hx
  obtain ⟨r, hr⟩ : ∃ r, rotr x 25 = r := ⟨_, rfl⟩
  rw [hr]; rw [hr] at hv
  clear hr
  go_enter Tryd.func98, Tryd.ntmps98
  go_wp2
  go_ret
  exact ⟨rfl, rfl⟩
set_option maxRecDepth 100000 in
theorem rotq25 (x : Nat) (w : World) (hx : x < 4294967296) :
    Calls Tryd.prog 98 #[.int .u32 x, .int .i64 (-25)] w fun e w' => e = .returned (wv (rotr x 25)) ∧ w' = w := (rot25 x w hx).mono fun _ _ ⟨h, k⟩ => ⟨h, k.symm⟩
set_option maxRecDepth 100000 in
set_option maxHeartbeats 400000 in
theorem rot2 (x : Nat) (w : World) (hx : x < 4294967296) :
    Calls Tryd.prog 98 #[.int .u32 x, .int .i64 (-2)] w fun e w' => e = .returned (wv (rotr x 2)) ∧ w = w' := by
  have hb : bits .and .u64 (IntKind.u64.wrap (-2)) 31 = 30 := by decide
  have hv : bits .or .u32 ((x : Int) * 1073741824 % 4294967296) ((x : Int) / 4) = ((rotr x 2 : Nat) : Int) := or_rot x 1073741824 4 hx
  obtain ⟨r, hr⟩ : ∃ r, rotr x 2 = r := ⟨_, rfl⟩
  rw [hr]; rw [hr] at hv
  clear hr
  go_enter Tryd.func98, Tryd.ntmps98
  go_wp2
  go_ret
  exact ⟨rfl, rfl⟩
set_option maxRecDepth 100000 in
set_option maxHeartbeats 400000 in
theorem rot13 (x : Nat) (w : World) (hx : x < 4294967296) :
    Calls Tryd.prog 98 #[.int .u32 x, .int .i64 (-13)] w fun e w' => e = .returned (wv (rotr x 13)) ∧ w = w' := by
  have hb : bits .and .u64 (IntKind.u64.wrap (-13)) 31 = 19 := by decide
  have hv : bits .or .u32 ((x : Int) * 524288 % 4294967296) ((x : Int) / 8192) = ((rotr x 13 : Nat) : Int) := or_rot x 524288 8192 hx
  obtain ⟨r, hr⟩ : ∃ r, rotr x 13 = r := ⟨_, rfl⟩
  rw [hr]; rw [hr] at hv
  clear hr
  go_enter Tryd.func98, Tryd.ntmps98
  go_wp2
  go_ret
  exact ⟨rfl, rfl⟩
set_option maxRecDepth 100000 in
set_option maxHeartbeats 400000 in
theorem rot22 (x : Nat) (w : World) (hx : x < 4294967296) :
    Calls Tryd.prog 98 #[.int .u32 x, .int .i64 (-22)] w fun e w' => e = .returned (wv (rotr x 22)) ∧ w = w' := by
  have hb : bits .and .u64 (IntKind.u64.wrap (-22)) 31 = 10 := by decide
  have hv : bits .or .u32 ((x : Int) * 1024 % 4294967296) ((x : Int) / 4194304) = ((rotr x 22 : Nat) : Int) := or_rot x 1024 4194304 hx
  obtain ⟨r, hr⟩ : ∃ r, rotr x 22 = r := ⟨_, rfl⟩
  rw [hr]; rw [hr] at hv
  clear hr
  go_enter Tryd.func98, Tryd.ntmps98
  go_wp2
  go_ret
  exact ⟨rfl, rfl⟩
end Hs
end
section
namespace Hs
open Go.RowKit
def Blk (w : World) (g : Nat) (t : TypeId) (cs : Array Value) : Prop := w.heap[g]? = some (.cells cs t (0, 0))
section
variable {w w' : World} {g : Nat} {t : TypeId} {cs : Array Value}
set_option maxRecDepth 100000 in
theorem Blk.lt (h : Blk w g t cs) : g < w.heap.size := by
  rcases Nat.lt_or_ge g w.heap.size with hlt | hge
  · exact hlt
  · unfold Blk at h; rw [Array.getElem?_eq_none hge] at h; cases h
set_option maxRecDepth 100000 in
theorem Blk.cell (h : Blk w g t cs) (i : Nat) : w.cell? ⟨g, i, none⟩ = cs[i]? := cell_of_row w g i cs t (0, 0) h
set_option maxRecDepth 100000 in
theorem Blk.frozen (h : Blk w g t cs) (i : Nat) : w.frozen? ⟨g, i, none⟩ = false := by
  unfold Blk at h
  simp [World.frozen?, h]
set_option maxRecDepth 100000 in
theorem Blk.new (w : World) (t : TypeId) (cs : Array Value) : Blk (w.alloc (.cells cs t)) w.heap.size t cs := heap_alloc_new w _
set_option maxRecDepth 100000 in
theorem Blk.new' {g : Nat} (w : World) (t : TypeId) (cs cs' : Array Value) (h : w.heap.size = g) (e : cs = cs') : Blk (w.alloc (.cells cs t)) g t cs' := by subst h; subst e; exact heap_alloc_new w _
set_option maxRecDepth 100000 in
theorem Blk.drew (h : Blk w g t cs) : Blk w.drew g t cs := h
set_option maxRecDepth 100000 in
theorem Blk.drewN (h : Blk w g t cs) (n : Nat) : Blk (w.drewN n) g t cs := h
set_option maxRecDepth 100000 in
theorem Blk.alloc (h : Blk w g t cs) (o : Obj) : Blk (w.alloc o) g t cs := (Below.heap_alloc w o g h.lt).trans h
set_option maxRecDepth 100000 in
theorem Blk.set_ (h : Blk w g t cs) (i : Nat) (u : Value) : Blk (w.setCell ⟨g, i, none⟩ u) g t (cs.setIfInBounds i u) := by
  unfold Blk at h ⊢
  simp [World.setCell, Array.getElem?_modify, h]
set_option maxRecDepth 100000 in
theorem Blk.far (h : Blk w g t cs) {p : Addr} (hp : g ≠ p.block) (u : Value) : Blk (w.setCell p u) g t cs := (Below.heap_setCell w p u g hp).trans h
set_option maxRecDepth 100000 in
theorem Blk.below {B : Nat} (h : Blk w g t cs) (hb : Below B w w') (hg : g < B) : Blk w' g t cs := (hb.block g hg).trans h
end
set_option maxRecDepth 100000 in
theorem Blk.row_ {w : World} {g : Nat} {t : TypeId} {cs : Array Value} (h : Blk w g t cs) (cs' : Array Value) : Blk (w.setRow g cs') g t cs' := setRow_heap w g cs cs' t (0, 0) h
set_option maxRecDepth 100000 in
theorem Blk.rowfar {w : World} {g g' : Nat} {t : TypeId} {cs : Array Value} (h : Blk w g t cs) (hne : g ≠ g') (cs' : Array Value) : Blk (w.setRow g' cs') g t cs := (setRow_other w g' g cs' hne).trans h
set_option maxRecDepth 100000 in
theorem wpList_store_blk {P : Program} {ops : Array Oper} {rest : List Oper} {op : Oper} {a : Act} {w : World} {Q : Exit → Act → World → Prop} (hgd : op.guard = none) (ty : TypeId) (x y : Operand) (ho : op.op = .store ty x y)
    (g : Nat) (t : TypeId) (old cells : Array Value) (hx : a.eval x = .pointer (some ⟨g, 0, none⟩)) (hy : a.eval y = .agg cells)
    (hg : Blk w g t old) (hi : (P.info? ty).map (·.size) = some cells.size) (hs : old.size = cells.size) (h1 : cells.all (·.oneCell') = true)
    (hd : op.dst = none) (h : wpList P ops Q rest a (w.setRow g cells)) : wpList P ops Q (op :: rest) a w := by
  refine wpList_plain hgd fun K hK => ?_
  unfold Oper.wp execOp
  simp only [ho, hx, hy, Instr.storeAt, Instr.sureAddr, Sem.run_bind, Sem.run_pure, Result.andThen_ok, run_storeVar_row w g t ty old cells hg hi hs h1]
  have e : a.put op.dst undef = a := by rw [hd]; rfl
  have := hK _ _ h
  rw [← e] at this
  exact this
set_option maxRecDepth 100000 in
theorem wpList_load_blk {P : Program} {ops : Array Oper} {rest : List Oper} {op : Oper} {a : Act} {w : World} {Q : Exit → Act → World → Prop} (hgd : op.guard = none) (ty : TypeId) (x : Operand) (ho : op.op = .load ty x)
    (g : Nat) (hx : a.eval x = .pointer (some ⟨g, 0, none⟩)) (t : TypeId) (cs : Array Value) (n : Nat) (e : TypeId) (hg : Blk w g t cs)
    (hu : P.underlying ty = some (.array n e)) (hi : (P.info? ty).map (·.size) = some cs.size)
    (h : wpList P ops Q rest (a.put op.dst (.agg cs)) w) : wpList P ops Q (op :: rest) a w :=
  wpList_load_row hgd ty x ho g hx t cs (0, 0) (.array n e) hg hu rfl hi h
def bvs (l : List Nat) : Array Value := (l.map bv).toArray
def wvs (l : List Nat) : Array Value := (l.map wv).toArray
set_option maxRecDepth 100000 in
theorem bvs_at (l : List Nat) (k : Nat) (h : k < l.length) : (bvs l)[k]? = some (bv (l.getD k 0)) := by
  unfold bvs
  rw [List.getElem?_toArray, List.getElem?_map, List.getElem?_eq_getElem h, List.getD_eq_getElem?_getD, List.getElem?_eq_getElem h]
  rfl
set_option maxRecDepth 100000 in
theorem wvs_at (l : List Nat) (k : Nat) (h : k < l.length) : (wvs l)[k]? = some (wv (l.getD k 0)) := by
  unfold wvs
  rw [List.getElem?_toArray, List.getElem?_map, List.getElem?_eq_getElem h, List.getD_eq_getElem?_getD, List.getElem?_eq_getElem h]
  rfl
set_option maxRecDepth 100000 in
theorem wvs_set (l : List Nat) (k x : Nat) : (wvs l).setIfInBounds k (wv x) = wvs (l.set k x) := by
  unfold wvs
  rw [List.setIfInBounds_toArray, List.map_set]
set_option maxRecDepth 100000 in
theorem bvs_set (l : List Nat) (k x : Nat) : (bvs l).setIfInBounds k (bv x) = bvs (l.set k x) := by
  unfold bvs
  rw [List.setIfInBounds_toArray, List.map_set]
set_option maxRecDepth 100000 in
theorem bvs_one (l : List Nat) : (bvs l).all (·.oneCell') = true := by
  unfold bvs
  rw [Array.all_eq_true_iff_forall_mem]
  intro v hv
  simp at hv
  obtain ⟨x, _, rfl⟩ := hv
  rfl
set_option maxRecDepth 100000 in
theorem wvs_one (l : List Nat) : (wvs l).all (·.oneCell') = true := by
  unfold wvs
  rw [Array.all_eq_true_iff_forall_mem]
  intro v hv
  simp at hv
  obtain ⟨x, _, rfl⟩ := hv
  rfl
set_option maxRecDepth 100000 in
theorem bvs_size (l : List Nat) : (bvs l).size = l.length := by unfold bvs; simp
set_option maxRecDepth 100000 in
theorem wvs_size (l : List Nat) : (wvs l).size = l.length := by unfold wvs; simp
def pad (n : Nat) (l : List Nat) : List Nat := l ++ List.replicate (n - l.length) 0
set_option maxRecDepth 100000 in
theorem pad_len (n : Nat) (l : List Nat) (h : l.length ≤ n) : (pad n l).length = n := by unfold pad; simp; omega
set_option maxRecDepth 100000 in
theorem pad_set (n : Nat) (l : List Nat) (x : Nat) (h : l.length < n) : (pad n l).set l.length x = pad n (l ++ [x]) := by
  unfold pad
  rw [List.set_append_right _ _ (Nat.le_refl _), Nat.sub_self, List.length_append, List.append_assoc]
  congr 1
  have : n - l.length = (n - (l.length + [x].length)) + 1 := by simp; omega
  rw [this, List.replicate_succ]
  rfl
set_option maxRecDepth 100000 in
theorem pad_at (n : Nat) (l : List Nat) (k : Nat) : (pad n l).getD k 0 = l.getD k 0 := by
  unfold pad
  rw [List.getD_eq_getElem?_getD, List.getD_eq_getElem?_getD, List.getElem?_append]
  split
  · rfl
  · rename_i h
    rw [List.getElem?_eq_none (by omega : l.length ≤ k), List.getElem?_replicate]
    split <;> rfl
set_option maxRecDepth 100000 in
theorem pad_full (n : Nat) (l : List Nat) (h : l.length = n) : pad n l = l := by unfold pad; rw [h]; simp
set_option maxRecDepth 100000 in
theorem word_val (x0 x1 x2 x3 : Nat) (h0 : x0 < 256) (h1 : x1 < 256) (h2 : x2 < 256) (h3 : x3 < 256) :
    bits .or .u32 (bits .or .u32 (bits .or .u32 (IntKind.u32.wrap (IntKind.u32.wrap (x0 : Int) * 16777216)) (IntKind.u32.wrap (IntKind.u32.wrap (x1 : Int) * 65536))) (IntKind.u32.wrap (IntKind.u32.wrap (x2 : Int) * 256))) (IntKind.u32.wrap (x3 : Int))
      = ((((x0 * 2 ^ 24 ||| x1 * 2 ^ 16) ||| x2 * 2 ^ 8) ||| x3 : Nat) : Int) := by
  have e0 : IntKind.u32.wrap (IntKind.u32.wrap (x0 : Int) * 16777216) = ((x0 * 2 ^ 24 : Nat) : Int) := by rw [IntKind.wrap_u32', IntKind.wrap_u32']; omega
  have e1 : IntKind.u32.wrap (IntKind.u32.wrap (x1 : Int) * 65536) = ((x1 * 2 ^ 16 : Nat) : Int) := by rw [IntKind.wrap_u32', IntKind.wrap_u32']; omega
  have e2 : IntKind.u32.wrap (IntKind.u32.wrap (x2 : Int) * 256) = ((x2 * 2 ^ 8 : Nat) : Int) := by rw [IntKind.wrap_u32', IntKind.wrap_u32']; omega
  have e3 : IntKind.u32.wrap (x3 : Int) = (x3 : Int) := by rw [IntKind.wrap_u32']; omega
  have k1 : x0 * 2 ^ 24 ||| x1 * 2 ^ 16 < 2 ^ 32 := Nat.or_lt_two_pow (by omega) (by omega)
  have k2 : (x0 * 2 ^ 24 ||| x1 * 2 ^ 16) ||| x2 * 2 ^ 8 < 2 ^ 32 := Nat.or_lt_two_pow k1 (by omega)
  rw [e0, e1, e2, e3, u32_or_nat _ _ (by omega) (by omega), u32_or_nat _ _ k1 (by omega), u32_or_nat _ _ k2 (by omega)]
set_option maxRecDepth 100000 in
theorem sg_val (x r s q : Nat) (hr : r < 4294967296) (hs : s < 4294967296) (hx : x < 4294967296) : bits .xor .u32 (bits .xor .u32 (r : Int) (s : Int)) ((x : Int) / (q : Int)) = (((r ^^^ s) ^^^ (x / q) : Nat) : Int) := by
  have h2 : (x : Int) / (q : Int) = ((x / q : Nat) : Int) := by simp
  rw [h2, u32_xor_nat _ _ hr hs]
  exact u32_xor_nat _ _ (xor32 hr hs) (Nat.lt_of_le_of_lt (Nat.div_le_self _ _) hx)
set_option maxRecDepth 100000 in
theorem sg0_val (x : Nat) (hx : x < 4294967296) : bits .xor .u32 (bits .xor .u32 (rotr x 7 : Int) (rotr x 18 : Int)) ((x : Int) / 8) = ((sg0 x : Nat) : Int) := sg_val x _ _ 8 (rotr_lt _ _ hx) (rotr_lt _ _ hx) hx
set_option maxRecDepth 100000 in
theorem sg1_val (x : Nat) (hx : x < 4294967296) : bits .xor .u32 (bits .xor .u32 (rotr x 17 : Int) (rotr x 19 : Int)) ((x : Int) / 1024) = ((sg1 x : Nat) : Int) := sg_val x _ _ 1024 (rotr_lt _ _ hx) (rotr_lt _ _ hx) hx
set_option maxRecDepth 100000 in
theorem add_val (a b : Nat) : IntKind.u32.wrap ((a : Int) + (b : Int)) = ((add32 a b : Nat) : Int) := by rw [IntKind.wrap_u32']; unfold add32; omega
set_option maxRecDepth 100000 in
theorem add_mod (a b : Nat) : ((a : Int) + (b : Int)) % 4294967296 = ((add32 a b : Nat) : Int) := by unfold add32; omega
set_option maxRecDepth 100000 in
theorem sum4_val (a b c d : Nat) : IntKind.u32.wrap (IntKind.u32.wrap (IntKind.u32.wrap ((a : Int) + (b : Int)) + (c : Int)) + (d : Int)) = ((add32 (add32 (add32 a b) c) d : Nat) : Int) := by rw [add_val, add_val, add_val]
set_option maxRecDepth 100000 in
set_option maxHeartbeats 1000000 in
theorem schedule_any (b : List Nat) (w : World) (hb : b.length = 64) (hlt : ∀ k, b.getD k 0 < 256) :
    Calls Tryd.prog 97 #[.agg (bvs b)] w fun e w' => e = .returned (.agg (wvs (sched b 64))) ∧ Below w.heap.size w w' := by
  have HB := Lib.hid hb; have HL := Lib.hid hlt
  clear hb hlt
  go_enter Tryd.func97, Tryd.ntmps97
  go_wp2
  go_loopw [10] (fun uk wr => ∃ k : Nat, k ≤ 16 ∧ uk = .int .i64 k ∧ wr.heap.size = w.heap.size + 3 ∧ Below w.heap.size w wr ∧ Hid (Blk wr w.heap.size 133 (bvs b)) ∧ Hid (Blk wr (w.heap.size + 1) 159 (wvs (pad 64 []))) ∧ Hid (Blk wr (w.heap.size + 1 + 1) 159 (wvs (pad 64 (sched b k))))) (fun uk _ => 16 - (intOf uk).toNat)
  case atStart =>
    refine ⟨0, by omega, rfl, by simp, by (repeat' (first | (with_reducible exact Below.refl _ _) | (with_reducible assumption) | (with_reducible refine Below.alloc ?_ ?_ _) | (with_reducible refine Below.drew ?_) | (with_reducible refine below_dn ?_) | (with_reducible refine Below.setCell ?_ ?_ _) | (with_reducible exact Nat.le_refl _) | omega | (simp only [World.size_alloc, World.size_setCell, World.size_drew]; omega) | (simp; omega) | (simp; done))), Lib.hid (((Blk.new w _ _).alloc _).alloc _), Lib.hid ((Blk.new' _ _ _ _ (by simp) rfl).alloc _), Lib.hid (Blk.new' _ _ _ _ (by simp) rfl)⟩
  case round =>
    obtain ⟨k, hk, rfl, hsz, B, h0, h1, h2⟩ := hrel
    by_cases hlt : k < 16
    · obtain ⟨M, hM⟩ : ∃ M, 4 * k = M := ⟨_, rfl⟩
      have l0 := HL.out M; have l1 := HL.out (M + 1); have l2 := HL.out (M + 2); have l3 := HL.out (M + 3)
      have d0 := (h0.out.cell M).trans (bvs_at b M (by rw [HB.out]; omega))
      have d1 := (h0.out.cell (M + 1)).trans (bvs_at b (M + 1) (by rw [HB.out]; omega))
      have d2 := (h0.out.cell (M + 2)).trans (bvs_at b (M + 2) (by rw [HB.out]; omega))
      have d3 := (h0.out.cell (M + 3)).trans (bvs_at b (M + 3) (by rw [HB.out]; omega))
      have hwd : nextW b (sched b k) k = ((b.getD M 0 * 2 ^ 24 ||| b.getD (M + 1) 0 * 2 ^ 16) ||| b.getD (M + 2) 0 * 2 ^ 8) ||| b.getD (M + 3) 0 := by
        unfold nextW word
        rw [if_pos hlt, hM]
      obtain ⟨x0, e0⟩ : ∃ x, b.getD M 0 = x := ⟨_, rfl⟩
      obtain ⟨x1, e1⟩ : ∃ x, b.getD (M + 1) 0 = x := ⟨_, rfl⟩
      obtain ⟨x2, e2⟩ : ∃ x, b.getD (M + 2) 0 = x := ⟨_, rfl⟩
      obtain ⟨x3, e3⟩ : ∃ x, b.getD (M + 3) 0 = x := ⟨_, rfl⟩
      rw [e0] at l0 d0 hwd; rw [e1] at l1 d1 hwd; rw [e2] at l2 d2 hwd; rw [e3] at l3 d3 hwd
      clear e0 e1 e2 e3
      have fr := h2.out.frozen k
      have dk := (h2.out.cell k).trans (wvs_at _ k (by rw [pad_len _ _ (by rw [sched_len]; omega)]; omega))
      obtain ⟨od, hod⟩ : ∃ x, (pad 64 (sched b k)).getD k 0 = x := ⟨_, rfl⟩
      rw [hod] at dk
      have v0 : IntKind.i64.wrap (4 * (k : Int)) = (M : Int) := by rw [IntKind.wrap_i64]; omega
      have v1 : IntKind.i64.wrap ((M : Int) + 1) = (M : Int) + 1 := by rw [IntKind.wrap_i64]; omega
      have v2 : IntKind.i64.wrap ((M : Int) + 2) = (M : Int) + 2 := by rw [IntKind.wrap_i64]; omega
      have v3 : IntKind.i64.wrap ((M : Int) + 3) = (M : Int) + 3 := by rw [IntKind.wrap_i64]; omega
      have u1 : ((M : Int) + 1).toNat = M + 1 := by omega
      have u2 : ((M : Int) + 2).toNat = M + 2 := by omega
      have u3 : ((M : Int) + 3).toNat = M + 3 := by omega
      have p1 : (0 : Int) ≤ (M : Int) + 1 := by omega
      have p2 : (0 : Int) ≤ (M : Int) + 2 := by omega
      have p3 : (0 : Int) ≤ (M : Int) + 3 := by omega
      have b0 : (M : Int) < 64 := by omega
      have p0 : (0 : Int) ≤ (M : Int) := by omega
      have bk : (k : Int) < 64 := by omega
      have pk : (0 : Int) ≤ (k : Int) := by omega
      have b1 : (M : Int) + 1 < 64 := by omega
      have b2 : (M : Int) + 2 < 64 := by omega
      have b3 : (M : Int) + 3 < 64 := by omega
      have hv := word_val x0 x1 x2 x3 l0 l1 l2 l3
      rw [← hwd] at hv
      obtain ⟨y, hy⟩ : ∃ y, nextW b (sched b k) k = y := ⟨_, rfl⟩
      rw [hy] at hv
      have HY := Lib.hid hy
      clear hM hod hwd hy l0 l1 l2 l3
      go_wp2
      refine wp_region_still_tail 31 (by kernel_rfl) (by kernel_rfl) ?_
      simp only [List.take_succ_cons, List.take_zero, List.drop_succ_cons, List.drop_zero]
      show wpStill _ _ (World.drew _) _ _ _
      repeat still_step
      refine wpStill_nil ?_
      show wpList _ _ _ _ _ (World.drew _)
      go_wp2
      go_roundw
      case rel =>
        refine ⟨k + 1, by omega, by go_num, by simp [hsz], by (repeat' (first | (with_reducible exact Below.refl _ _) | (with_reducible assumption) | (with_reducible refine Below.alloc ?_ ?_ _) | (with_reducible refine Below.drew ?_) | (with_reducible refine below_dn ?_) | (with_reducible refine Below.setCell ?_ ?_ _) | (with_reducible exact Nat.le_refl _) | omega | (simp only [World.size_alloc, World.size_setCell, World.size_drew]; omega) | (simp; omega) | (simp; done))), Lib.hid (h0.out.drew.far (by simp; omega) _), Lib.hid (h1.out.drew.far (by simp) _), Lib.hid ?_⟩
        have := h2.out.set_ k (wv y)
        rw [wvs_set] at this
        have e := pad_set 64 (sched b k) y (by rw [sched_len]; omega)
        rw [sched_len] at e
        rw [e] at this
        rw [sched, HY.out]
        exact this.drew
      case measure => simp [intOf]; omega
    · have KE := Lib.hid (show k = 16 by omega)
      clear hk
      go_wp2
      go_loopw [5] (fun uk wr => ∃ j : Nat, 16 ≤ j ∧ j ≤ 64 ∧ uk = .int .i64 j ∧ wr.heap.size = w.heap.size + 3 ∧ Below w.heap.size w wr ∧ Hid (Blk wr (w.heap.size + 1) 159 (wvs (pad 64 []))) ∧ Hid (Blk wr (w.heap.size + 1 + 1) 159 (wvs (pad 64 (sched b j))))) (fun uk _ => 64 - (intOf uk).toNat)
      case atStart => exact ⟨16, by omega, by omega, rfl, hsz, B, h1, by rw [KE.out] at h2; exact h2⟩
      case round =>
        clear hsz B h0 h1 h2
        obtain ⟨j, hk16, hk, rfl, hsz, B, h1, h2⟩ := hrel
        by_cases hlt : j < 64
        · have LS := getD_lt (by decide : 0 < 4294967296) (sched_lt b HL.out j)
          have cell := fun A (hA : A < 64) => ((h2.out.cell A).trans (wvs_at _ A (by rw [pad_len _ _ (by rw [sched_len]; omega)]; exact hA))).trans (by rw [pad_at])
          obtain ⟨A, hA⟩ : ∃ A, j = A + 15 := ⟨j - 15, by omega⟩
          obtain ⟨C, hC⟩ : ∃ C, j = C + 2 := ⟨j - 2, by omega⟩
          obtain ⟨D, hD⟩ : ∃ D, j = D + 16 := ⟨j - 16, by omega⟩
          obtain ⟨E, hE⟩ : ∃ E, j = E + 7 := ⟨j - 7, by omega⟩
          have vA : IntKind.i64.wrap ((j : Int) - 15) = (A : Int) := by rw [IntKind.wrap_i64]; omega
          have vC : IntKind.i64.wrap ((j : Int) - 2) = (C : Int) := by rw [IntKind.wrap_i64]; omega
          have vD : IntKind.i64.wrap ((j : Int) - 16) = (D : Int) := by rw [IntKind.wrap_i64]; omega
          have vE : IntKind.i64.wrap ((j : Int) - 7) = (E : Int) := by rw [IntKind.wrap_i64]; omega
          have hnx : nextW b (sched b j) j = add32 (add32 (add32 ((sched b j).getD D 0) (sg0 ((sched b j).getD A 0))) ((sched b j).getD E 0)) (sg1 ((sched b j).getD C 0)) := by
            unfold nextW
            rw [if_neg (by omega), show j - 16 = D by omega, show j - 15 = A by omega, show j - 7 = E by omega, show j - 2 = C by omega]
          have dA := cell A (by omega); have dC := cell C (by omega); have dD := cell D (by omega); have dE := cell E (by omega)
          have dk := cell j hlt
          have fr := h2.out.frozen j
          have lA := LS A; have lC := LS C; have lD := LS D; have lE := LS E
          obtain ⟨xA, eA⟩ : ∃ x, (sched b j).getD A 0 = x := ⟨_, rfl⟩
          obtain ⟨xC, eC⟩ : ∃ x, (sched b j).getD C 0 = x := ⟨_, rfl⟩
          obtain ⟨xD, eD⟩ : ∃ x, (sched b j).getD D 0 = x := ⟨_, rfl⟩
          obtain ⟨xE, eE⟩ : ∃ x, (sched b j).getD E 0 = x := ⟨_, rfl⟩
          obtain ⟨xk, ek⟩ : ∃ x, (sched b j).getD j 0 = x := ⟨_, rfl⟩
          rw [eA] at dA lA hnx; rw [eC] at dC lC hnx; rw [eD] at dD lD hnx; rw [eE] at dE lE hnx; rw [ek] at dk
          clear eA eC eD eE ek LS cell
          have iA : (A : Int) < 64 := by omega
          have iC : (C : Int) < 64 := by omega
          have iD : (D : Int) < 64 := by omega
          have iE : (E : Int) < 64 := by omega
          have ik : (j : Int) < 64 := by omega
          have pA : (0 : Int) ≤ (A : Int) := by omega
          have pC : (0 : Int) ≤ (C : Int) := by omega
          have pD : (0 : Int) ≤ (D : Int) := by omega
          have pE : (0 : Int) ≤ (E : Int) := by omega
          have pk : (0 : Int) ≤ (j : Int) := by omega
          have q1 := sg0_val xA lA
          have q2 := sg1_val xC lC
          have g1 := rotr_lt xA 7 lA
          have c7 := Lib.hid (fun W : World => rot7 xA W lA)
          have c18 := Lib.hid (fun W : World => rot18 xA W lA)
          have c17 := Lib.hid (fun W : World => rot17 xC W lC)
          have c19 := Lib.hid (fun W : World => rot19 xC W lC)
          obtain ⟨r7, e7⟩ : ∃ r, rotr xA 7 = r := ⟨_, rfl⟩
          obtain ⟨r18, e18⟩ : ∃ r, rotr xA 18 = r := ⟨_, rfl⟩
          obtain ⟨r17, e17⟩ : ∃ r, rotr xC 17 = r := ⟨_, rfl⟩
          obtain ⟨r19, e19⟩ : ∃ r, rotr xC 19 = r := ⟨_, rfl⟩
          obtain ⟨S0, hS0⟩ : ∃ r, sg0 xA = r := ⟨_, rfl⟩
          obtain ⟨S1, hS1⟩ : ∃ r, sg1 xC = r := ⟨_, rfl⟩
          rw [e7] at c7 q1; rw [e18] at c18 q1; rw [e17] at c17 q2; rw [e19] at c19 q2
          rw [hS0] at q1 hnx; rw [hS1] at q2 hnx
          have q3 := sum4_val xD S0 xE S1
          rw [← hnx] at q3
          obtain ⟨y, hy⟩ : ∃ y, nextW b (sched b j) j = y := ⟨_, rfl⟩
          rw [hy] at q3
          have HY := Lib.hid hy
          have KA := Lib.hid hA
          clear hA hC hD hE hnx hy e7 e18 e17 e19 hS0 hS1 g1 lA lC lD lE
          go_wp2
          go_quiet (fail)
          go_wp2_with fail
          refine (c7.out _).mono ?_
          rintro e w1 ⟨rfl, rfl⟩
          go_wp2_with fail
          refine (c18.out _).mono ?_
          rintro e w1 ⟨rfl, rfl⟩
          go_wp2_with fail
          refine (c17.out _).mono ?_
          rintro e w1 ⟨rfl, rfl⟩
          go_wp2_with fail
          refine (c19.out _).mono ?_
          rintro e w1 ⟨rfl, rfl⟩
          go_wp2
          refine wp_region_still_tail 15 (by kernel_rfl) (by kernel_rfl) ?_
          simp only [List.take_succ_cons, List.take_zero, List.drop_succ_cons, List.drop_zero]
          show wpStill _ _ (World.drew _) _ _ _
          repeat still_step
          refine wpStill_nil ?_
          show wpList _ _ _ _ _ (World.drew _)
          go_wp2
          go_roundw
          case rel =>
            refine ⟨j + 1, by omega, by omega, by go_num, ?_, ?_, ?_, ?_⟩
            · simp [hsz]
            · (repeat' (first | (with_reducible exact Below.refl _ _) | (with_reducible assumption) | (with_reducible refine Below.alloc ?_ ?_ _) | (with_reducible refine Below.drew ?_) | (with_reducible refine below_dn ?_) | (with_reducible refine Below.setCell ?_ ?_ _) | (with_reducible exact Nat.le_refl _) | omega | (simp only [World.size_alloc, World.size_setCell, World.size_drew]; omega) | (simp; omega) | (simp; done)))
            · refine Lib.hid ?_
              exact ((h1.out.far (by simp) _).drewN _)
            · refine Lib.hid ?_
              have := h2.out.set_ j (wv y)
              rw [wvs_set] at this
              have e := pad_set 64 (sched b j) y (by rw [sched_len]; omega)
              rw [sched_len] at e
              rw [e] at this
              rw [sched, HY.out]
              exact this.drewN _
          case measure => simp [intOf]; omega
        · obtain rfl : j = 64 := by omega
          rw [pad_full _ _ (sched_len b 64)] at h2
          have ia : (Tryd.prog.info? 159).map (·.size) = some (wvs (sched b 64)).size := by rw [wvs_size, sched_len]; kernel_rfl
          have sz : (wvs (pad 64 [])).size = (wvs (sched b 64)).size := by rw [wvs_size, wvs_size, sched_len]; rfl
          have IA := Lib.hid ia; have SZ := Lib.hid sz
          clear ia sz
          go_wp2_with (first | (with_reducible refine wpList_load_blk rfl _ _ rfl _ rfl 159 _ _ _ h2.out Tryd.underlying159 IA.out ?_) | (with_reducible refine wpList_store_blk rfl _ _ _ rfl _ 159 _ _ rfl rfl h1.out IA.out SZ.out (wvs_one _) rfl ?_))
          refine bodyPost_ret (v := .agg (wvs (sched b 64))) (results_cell_row rfl _ _ _ 159 _ (0, 0) _ rfl (h1.out.row_ _) Tryd.underlying159 rfl IA.out) rfl ⟨rfl, ?_⟩
          exact below_setRow B (by omega) _
end Hs
end
end Go.Proofs.YteblnmhaohbkkaaDoor
