/- What every law of wire needs: consumed; bounds of what is read and written. -/
import Derived.Test.YtlihndekeaefcaaN
namespace Go.Proofs.Ytlihndekeaefcaa
set_option linter.unusedVariables false
set_option linter.unusedSimpArgs false
open Go.RowKit
theorem enc_lt (n : Int) : ∀ x ∈ enc n, x < 256 := digs_bd _
theorem encS_lt (s : List Nat) (h : ∀ x ∈ s, x < 256) : ∀ x ∈ encS s, x < 256 := by
  intro x hx
  unfold encS at hx
  rcases List.mem_append.1 hx with k | k
  · exact enc_lt _ x k
  · exact h x k
theorem encL_lt {α : Type} (f : α → List Nat) (l : List α) (h : ∀ y ∈ l, ∀ x ∈ f y, x < 256) : ∀ x ∈ encL f l, x < 256 := by
  intro x hx
  unfold encL at hx
  rcases List.mem_append.1 hx with k | k
  · exact enc_lt _ x k
  · obtain ⟨y, hy, hxy⟩ := List.mem_flatMap.1 k
    exact h y hy x hxy
theorem flatMap_le {α : Type} {f : α → List Nat} {s : Nat} : ∀ (l : List α), (∀ x ∈ l, (f x).length ≤ s) → (l.flatMap f).length ≤ l.length * s
  | [], _ => by simp
  | x :: l, h => by
    have := flatMap_le l (fun y hy => h y (by simp [hy]))
    have := h x (by simp)
    rw [List.flatMap_cons, List.length_append, List.length_cons, Nat.succ_mul]
    omega
theorem enc_cnt (n : Nat) (h : n ≤ 1000000) : (enc n).length ≤ 10 := (enc_len n (by omega) (by omega)).2
theorem encL_ints (l : List Int) (hb : ∀ x ∈ l, -9223372036854775808 ≤ x ∧ x ≤ 9223372036854775807) (hm : l.length ≤ 2000) : (encL enc l).length ≤ 20010 := by
  have h1 := flatMap_le (f := enc) (s := 10) l (fun x hx => (enc_len x (hb x hx).1 (hb x hx).2).2)
  have h2 := enc_cnt l.length (by omega)
  unfold encL
  rw [List.length_append]
  omega
theorem encS_len (s : List Nat) (h : s.length ≤ 1000000) : (encS s).length ≤ 10 + s.length := by
  have := enc_cnt s.length h
  unfold encS
  rw [List.length_append]
  omega
theorem IntsA.lt {W : World} {a : Option Addr} {l : List Int} (h : IntsA W a l) : ∀ x ∈ l, -9223372036854775808 ≤ x ∧ x ≤ 9223372036854775807 := by
  intro x hx
  obtain ⟨k, hk, rfl⟩ := List.getElem_of_mem hx
  obtain ⟨-, -, -, -, h2⟩ := h k hk
  rwa [getD_at 0 hk] at h2
section
variable {α : Type} {D : List Nat → α × Nat × Nat} {f : α → List Nat} {p : α → Prop}
theorem dlA_all : ∀ (n : Nat) (acc : List α) (at' : Nat) (l : List Nat), (∀ m, p (D (l.drop m)).1) → (∀ x ∈ acc, p x) → ∀ x ∈ (dlA D n acc at' l).1, p x
  | 0, acc, at', l, _, ha => ha
  | n + 1, acc, at', l, h, ha => by
    rw [dlA]
    split
    · intro x hx; cases hx
    · refine dlA_all n _ _ l h fun x hx => ?_
      rcases List.mem_append.1 hx with k | k
      · exact ha x k
      · rw [List.mem_singleton.1 k]; exact h at'
theorem DL_all (s : Nat) (l : List Nat) (h : ∀ m, p (D (l.drop m)).1) : ∀ x ∈ (DL D s l).1, p x := by
  unfold DL
  split
  · intro x hx; cases hx
  · exact dlA_all _ _ _ l h (fun x hx => by cases hx)
theorem dlA_end : ∀ (n : Nat) (acc : List α) (at' : Nat) (l : List Nat), (dlA D n acc at' l).2.2 ≠ 0 → (dlA D n acc at' l).1 = []
  | 0, acc, at', l, h => absurd rfl h
  | n + 1, acc, at', l, h => by
    rw [dlA] at h ⊢
    split
    · rfl
    · rename_i h0
      rw [if_neg h0] at h
      exact dlA_end n _ _ l h
theorem DL_end (s : Nat) (l : List Nat) (h : (DL D s l).2.2 ≠ 0) : (DL D s l).1 = [] := by
  unfold DL at h ⊢
  split
  · rfl
  · rename_i h0
    rw [if_neg h0] at h
    exact dlA_end _ _ _ l h
/-- What is read in all: its encoding is short, and begins the bytes. -/
theorem DL_enc (s : Nat) (l : List Nat) (hb : ∀ x ∈ l, x < 256) (ho : ∀ m, Only D f (l.drop m)) : (encL f (DL D s l).1).length ≤ l.length + 10 ∧ ((DL D s l).2.2 = 0 → encL f (DL D s l).1 = l.take (DL D s l).2.1 ∧ (DL D s l).2.1 ≤ l.length) := by
  by_cases h : (DL D s l).2.2 = 0
  · have := DL_only s l (DL D s l).1 (DL D s l).2.1 hb ho (by rw [← h])
    refine ⟨?_, fun _ => this⟩
    rw [this.1, List.length_take]
    omega
  · refine ⟨?_, fun k => absurd k h⟩
    rw [DL_end s l h]
    have := enc_cnt 0 (by omega)
    unfold encL
    simp only [List.length_nil, List.flatMap_nil, List.append_nil]
    omega
theorem encL_cnt (l : List α) (h : ∀ x ∈ l, 1 ≤ (f x).length) : l.length ≤ (encL f l).length := by
  have := flatMap_len l h
  unfold encL
  rw [List.length_append]
  omega
end
theorem int_pos (x : Int) : 1 ≤ (enc x).length := digs_ne _
theorem encS_pos (s : List Nat) : 1 ≤ (encS s).length := by
  have := int_pos s.length
  unfold encS
  rw [List.length_append]
  omega
theorem ints_read (l : List Nat) (hb : ∀ x ∈ l, x < 256) : ∀ x ∈ (DL G 1 l).1, -9223372036854775808 ≤ x ∧ x ≤ 9223372036854775807 :=
  DL_all (D := G) (p := fun (x : Int) => -9223372036854775808 ≤ x ∧ x ≤ 9223372036854775807) 1 l fun m => ⟨(G_bd (drop_lt hb m)).1, (G_bd (drop_lt hb m)).2.1⟩
theorem GB_size (l : List Nat) : (GB l).1.length ≤ l.length := by
  unfold GB
  split
  · simp
  · simp only [List.length_take, List.length_drop]; omega
theorem strs_read (l : List Nat) : ∀ x ∈ (DL GBs 1 l).1, x.size ≤ l.length :=
  DL_all (D := GBs) (p := fun (x : ByteArray) => x.size ≤ l.length) 1 l fun m => by
    show (strB (GB (l.drop m)).1).size ≤ _
    rw [strB_size]
    have := GB_size (l.drop m)
    rw [List.length_drop] at this
    omega
theorem digs_read (l : List Nat) (hb : ∀ x ∈ l, x < 256) : ∀ x ∈ (DL GD 16 l).1, x.length = 16 ∧ ∀ y ∈ x, y < 256 :=
  DL_all (D := GD) (p := fun (x : List Nat) => x.length = 16 ∧ ∀ y ∈ x, y < 256) 16 l fun m => by
    refine ⟨(GD_bd _).2.2, ?_⟩
    unfold GD
    split
    · intro y hy; rw [List.eq_of_mem_replicate hy]; decide
    · intro y hy; exact drop_lt hb m y (List.mem_of_mem_take hy)
theorem getD_size (l : List ByteArray) (n : Nat) (h : ∀ x ∈ l, x.size ≤ n) (k : Nat) : (l.getD k ByteArray.empty).size ≤ n := by
  by_cases hk : k < l.length
  · rw [getD_at _ hk]; exact h _ (List.getElem_mem _)
  · rw [List.getD_eq_getElem?_getD, List.getElem?_eq_none (by omega)]
    exact Nat.zero_le _
set_option maxRecDepth 100000 in
set_option maxHeartbeats 2000000 in
theorem consumed_yes (a c : Option Addr) (ca cc : Nat) (l m : List Nat) (u e : Nat) (w : World) (h1 : BytesA w a l) (h2 : BytesA w c m) (hc : l.length ≤ ca) (hl : l.length ≤ 1000000) (hm : m.length ≤ 1000000) (h : e = 0 → m = l.take u ∧ u ≤ l.length) :
    Calls Try.prog 37 #[.slice a l.length ca, .slice c m.length cc, .int .i64 u, .int .i64 e] w fun r w' => r = .returned (.bool true) ∧ w = w' := by
  by_cases h0 : e = 0
  · subst h0
    obtain ⟨rfl, hul⟩ := h rfl
    have hlen : (l.take u).length = u := by rw [List.length_take]; omega
    have hs := same_any c a cc ca (l.take u) (l.take u) w h2 (fun k hk => by
      have hk' : k < u := by omega
      obtain ⟨b, off, e1, e2, e3⟩ := h1 k (by omega)
      exact ⟨b, off, e1, by rw [getD_take hk']; exact e2, by rw [getD_take hk']; exact e3⟩) (by omega) (by omega)
    rw [decide_eq_true rfl, hlen] at hs
    rw [hlen]
    have HS := Lib.hid hs
    clear hs h1 h2 hlen h hm
    have m1 : min (u : Int) (l.length : Int) = u := by omega
    have m2 : max (0 : Int) (u : Int) = u := by omega
    go_enter Try.func37, Try.ntmps37
    go_wp2_with fail
    refine HS.out.mono ?_
    rintro e w1 ⟨rfl, rfl⟩
    go_wp2
    go_ret
    exact ⟨rfl, rfl⟩
  · clear h h1 h2
    have e1 : ((e : Int) != 0) = true := by simp; omega
    have e2 : ((e : Int) == 0) = false := by simp; omega
    clear h0
    go_enter Try.func37, Try.ntmps37
    go_wp2
    go_ret
    exact ⟨rfl, rfl⟩
end Go.Proofs.Ytlihndekeaefcaa
