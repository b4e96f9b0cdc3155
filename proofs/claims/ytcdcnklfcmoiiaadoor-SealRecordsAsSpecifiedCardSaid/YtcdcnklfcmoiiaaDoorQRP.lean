/- Contracts: numbers and digests as texts (reference). -/
import Derived.Test.YtcdcnklfcmoiiaaDoorQRE
import Derived.Test.YtcdcnklfcmoiiaaDoorQZD
import Derived.Test.YtcdcnklfcmoiiaaDoorQPT
import Derived.Test.YtcdcnklfcmoiiaaDoorQEP
namespace Go.Proofs.YtcdcnklfcmoiiaaDoor
section
set_option linter.unusedVariables false
set_option linter.unusedSimpArgs false
namespace Hs
open Go.RowKit
set_option maxRecDepth 100000 in
set_option maxHeartbeats 1000000 in
theorem rInts_any (a : Option Addr) (cap : Nat) (l : List Int) (w : World) (hp : IntsA w a l) (hb : ∀ k, k < l.length → -9223372036854775808 ≤ l.getD k 0 ∧ l.getD k 0 ≤ 9223372036854775807) (hm : l.length ≤ 1000) (hT : (intsL l).length ≤ 100000) :
    Calls Tryd.prog 94 #[.slice a l.length cap] w (Gives w.heap.size w (intsL l)) := by
  have HP := Lib.hid hp
  have HN := Lib.hid hb
  have hT2 : (Wi.enc (l.length : Int)).length + (l.flatMap Wi.enc).length ≤ 100000 := by unfold intsL at hT; rw [List.length_append] at hT; exact hT
  unfold intsL
  have FL := Lib.hid (fun k => flat_le Wi.enc l k)
  obtain ⟨L, hL⟩ : ∃ L, l.length = L := ⟨_, rfl⟩
  have HLE := Lib.hid hL
  rw [hL] at hT2 hm ⊢
  have C0 := Lib.hid (fun W : World => Wi.intref_any (L : Int) W (by omega) (by omega))
  obtain ⟨E0, hE0⟩ : ∃ E, Wi.enc (L : Int) = E := ⟨_, rfl⟩
  simp only [hE0] at C0
  rw [hE0] at hT2 ⊢
  have HT := Lib.hid hT2
  have HMx := Lib.hid hm
  clear hp hL hb hT hT2 hE0 hm
  go_enter Tryd.func94, Tryd.ntmps94
  go_wp2_with fail
  refine (C0.out _).mono ?_
  rintro e w1 ⟨v, rfl, ho, hb1⟩
  have O1 := Lib.hid ho
  have B1 := Lib.hid hb1
  clear ho hb1
  go_wp2
  go_loopw [3, 4] (fun uv ui wr => ∃ k : Nat, k ≤ L ∧ ui = .int .i64 k ∧ Hid (OwnB wr w.heap.size uv (E0 ++ (l.take k).flatMap Wi.enc)) ∧ Hid (Below w.heap.size w wr)) (fun _ ui _ => L - (intOf ui).toNat)
  case atStart => exact ⟨0, by omega, rfl, Lib.hid (by simpa using O1.out), B1⟩
  case round =>
    clear O1 B1
    obtain ⟨k, hk, rfl, how, hbe⟩ := hrel
    have hmx := HMx.out
    by_cases hlt : k < L
    · have t0 : decide ((k : Int) < (L : Int)) = true := decide_eq_true (by omega)
      have wk : IntKind.i64.wrap ((k : Int) + 1) = (k : Int) + 1 := by rw [IntKind.wrap_i64]; omega
      obtain ⟨b, off, rfl, q1⟩ := HP.out.mono hbe.out k (by rw [HLE.out]; exact hlt)
      have bk := HN.out k (by rw [HLE.out]; exact hlt)
      have hln := Lib.hid (show (E0 ++ (l.take k).flatMap Wi.enc).length ≤ 1000000000 by rw [List.length_append]; have := FL.out k; have := HT.out; omega)
      have hnx := flat_snoc Wi.enc l k (by rw [HLE.out]; exact hlt)
      obtain ⟨u, hu⟩ : ∃ m, l.getD k 0 = m := ⟨_, rfl⟩
      rw [hu] at q1 bk hnx
      have C := Lib.hid (fun W : World => Wi.intref_any u W bk.1 bk.2)
      have le := (Wi.enc_len u bk.1 bk.2).2
      have fl := enc_lt u
      obtain ⟨F, hF⟩ : ∃ m, Wi.enc u = m := ⟨_, rfl⟩
      rw [hF] at hnx fl le; simp only [hF] at C
      have V := Lib.hid (fun (W : World) (B : Nat) (v : Value) (h : OwnB W B v F) => OwnB.view h fl)
      have HX := Lib.hid hnx
      have F5 := Lib.hid (show F.length ≤ 1000000000 by omega)
      have k0 : (0 : Int) ≤ (k : Int) := by omega
      have kN : (k : Int) < (L : Int) := by omega
      clear hu hF hnx fl le bk
      go_wp2_with fail
      refine (C.out _).mono ?_
      rintro e w2 ⟨v, rfl, ho, hb2⟩
      obtain ⟨a2, c2, rfl, -, y2⟩ := V.out _ _ _ ho
      have Y2 := Lib.hid y2
      have O2 := Lib.hid (show OwnB w2 w.heap.size _ _ from own_below how.out hb2)
      have B2 := Lib.hid (bt hbe.out hb2)
      have S2 := Lib.hid (B2.out.size)
      clear ho hb2 y2 how hbe
      go_wp2_with (at_builtin; refine wpAppS rfl _ _ 102 rfl w.heap.size _ _ rfl O2.out _ F rfl (src_bytes Y2.out) hln.out F5.out S2.out ?_)
      intro v' w3 hown' hb3
      have HO' := Lib.hid (show OwnB w3 w.heap.size v' (E0 ++ (l.take (k + 1)).flatMap Wi.enc) by rw [HX.out]; first | exact hown' | (rw [← List.append_assoc]; exact hown'))
      have HB3 := Lib.hid (B2.out.trans hb3)
      clear hown' hb3
      go_wp2
      go_roundw
      case rel => exact ⟨k + 1, by omega, by go_num, HO', HB3⟩
      case measure => simp [intOf]; omega
    · have ho := how.out
      rw [List.take_of_length_le (by rw [HLE.out]; omega)] at ho
      have t0 : decide ((k : Int) < (L : Int)) = false := decide_eq_false (by omega)
      go_wp2
      go_ret
      exact ⟨_, rfl, ho, hbe.out⟩
set_option maxRecDepth 100000 in
set_option maxHeartbeats 1000000 in
theorem rText_any (D : List Nat) (w : World) (hD : D.length = 16) (h256 : ∀ x ∈ D, x < 256) :
    Calls Tryd.prog 95 #[.agg (D.map bv).toArray] w fun e w' => e = .returned (.string (strB D)) ∧ Below w.heap.size w w' := by
  have CV := Lib.hid (fun (a : Option Addr) (c : Nat) (X : World) (h : BytesA X a D) => conv_str D a c X h)
  have VW := Lib.hid (fun (W : World) (B : Nat) (v : Value) (h : OwnB W B v D) => OwnB.view h h256)
  obtain ⟨Q, hQ⟩ : ∃ Q, strB D = Q := ⟨_, rfl⟩
  simp only [hQ, hD] at CV
  simp only [hD] at VW
  rw [hQ]
  have HD := Lib.hid hD
  clear hQ hD h256
  obtain ⟨C, hC⟩ : ∃ C, (D.map bv).toArray = C := ⟨_, rfl⟩
  have HC := Lib.hid hC
  obtain ⟨G, hG⟩ : ∃ G, w.heap.size = G := ⟨_, rfl⟩
  have HG := Lib.hid hG
  have K1 := Lib.hid (show Blk (w.alloc (.cells C 56)) G 56 C from Blk.new' w _ _ _ hG rfl)
  have BW := Lib.hid (show Below w.heap.size w (w.alloc (.cells C 56)) by (repeat' (first | (with_reducible exact Below.refl _ _) | (with_reducible assumption) | (with_reducible refine Below.alloc ?_ ?_ _) | (with_reducible refine Below.drew ?_) | (with_reducible refine below_dn ?_) | (with_reducible refine Below.setCell ?_ ?_ _) | (with_reducible exact Nat.le_refl _) | omega | (simp only [World.size_alloc, World.size_setCell, World.size_drew]; omega) | (simp; omega) | (simp; done))))
  rw [hC]
  clear hC
  go_enter Tryd.func95, Tryd.ntmps95
  go_upto_region 1 with (fail)
  try rw [hG]
  generalize hw0 : w.alloc (.cells C 56) = w0 at K1 BW ⊢
  clear hw0 hG
  have GZ := Lib.hid K1.out.lt
  have B0 := Lib.hid (Below.refl w0.heap.size w0)
  go_wp2
  go_loopw [3, 4] (fun uv ui wr => ∃ k : Nat, k ≤ 16 ∧ ui = .int .i64 k ∧ Hid (OwnB wr w0.heap.size uv (D.take k)) ∧ Hid (Blk wr G 56 C) ∧ Hid (Below w0.heap.size w0 wr)) (fun _ ui _ => 16 - (intOf ui).toNat)
  case atStart => exact ⟨0, by omega, rfl, Lib.hid (OwnB.nil _ _), K1, B0⟩
  case round =>
    clear K1 B0
    obtain ⟨k, hk, rfl, how, K1, B0⟩ := hrel
    by_cases hlt : k < 16
    · have t0 : decide ((k : Int) < 16) = true := decide_eq_true (by omega)
      have wk : IntKind.i64.wrap ((k : Int) + 1) = (k : Int) + 1 := by rw [IntKind.wrap_i64]; omega
      have q1 : wr.cell? ⟨G, k, none⟩ = some (bv (D.getD k 0)) := by
        rw [K1.out.cell k, ← HC.out]
        have hk2 : k < D.length := by rw [HD.out]; exact hlt
        simp [List.getElem?_eq_getElem hk2, List.getD_eq_getElem?_getD]
      have NX := Lib.hid (show D.take (k + 1) = D.take k ++ [D.getD k 0] by
        have hk2 : k < D.length := by rw [HD.out]; exact hlt
        rw [List.take_add_one, List.getElem?_eq_getElem hk2, List.getD_eq_getElem?_getD, List.getElem?_eq_getElem hk2]; rfl)
      have LN := Lib.hid (show (D.take k).length ≤ 16 by rw [List.length_take]; omega)
      obtain ⟨x, hx⟩ : ∃ x, D.getD k 0 = x := ⟨_, rfl⟩
      rw [hx] at q1
      simp only [hx] at NX
      clear hx
      have k0 : (0 : Int) ≤ (k : Int) := by omega
      have kN : (k : Int) < 16 := by omega
      have S1 := Lib.hid B0.out.size
      go_wp2_with (at_builtin; refine wpApp rfl _ _ rfl w0.heap.size _ _ rfl how.out x _ ?hy rfl ?hlen ?hBB ?_)
      case hy => rfl
      case hlen => have := LN.out; omega
      case hBB => exact S1.out
      intro v' w2 hown' hb2
      have HO' := Lib.hid (show OwnB w2 w0.heap.size v' (D.take (k + 1)) by rw [NX.out]; exact hown')
      have HB2 := Lib.hid (B0.out.trans hb2)
      replace K1 := Lib.hid (K1.out.below hb2 GZ.out)
      clear hown' hb2 q1
      go_wp2
      go_roundw
      case rel => exact ⟨k + 1, by omega, by go_num, HO', K1, HB2⟩
      case measure => simp [intOf]; omega
    · obtain rfl : k = 16 := by omega
      have ho := how.out
      rw [List.take_of_length_le (by rw [HD.out]; omega)] at ho
      obtain ⟨a9, c9, rfl, -, h9⟩ := VW.out _ _ _ ho
      have hcv := CV.out a9 c9 wr h9
      clear ho how h9
      go_wp2
      go_ret
      exact ⟨rfl, BW.out.trans (B0.out.mono BW.out.size)⟩
end Hs
open Go.RowKit
set_option maxRecDepth 100000 in
theorem rdigest_any (D : List Nat) (w : World) (hD : D.length = 16) (h256 : ∀ x ∈ D, x < 256) :
    Calls Tryd.prog 71 #[.agg (D.map Hs.bv).toArray] w fun e w' => e = .returned (.string (Hs.strB D)) ∧ Below w.heap.size w w' := by
  have CT := Lib.hid (fun X : World => Hs.rText_any D X hD h256)
  have DI := Lib.hid (show (Tryd.prog.info? 56).map (·.size) = some (D.map Hs.bv).length by rw [List.length_map, hD]; kernel_rfl)
  obtain ⟨Q, hQ⟩ : ∃ Q, Hs.strB D = Q := ⟨_, rfl⟩
  simp only [hQ] at CT
  rw [hQ]
  clear hQ hD h256
  obtain ⟨C, hC⟩ : ∃ C, (D.map Hs.bv).toArray = C := ⟨_, rfl⟩
  obtain ⟨G, hG⟩ : ∃ G, w.heap.size = G := ⟨_, rfl⟩
  have K1 := Lib.hid (show Blk (w.alloc (.cells C 56)) G 56 (D.map Hs.bv).toArray from by rw [hC]; exact Blk.new' w _ _ _ hG rfl)
  have BW := Lib.hid (show Below w.heap.size w (w.alloc (.cells C 56)) by (repeat' (first | (with_reducible exact Below.refl _ _) | (with_reducible assumption) | (with_reducible refine Below.alloc ?_ ?_ _) | (with_reducible refine Below.drew ?_) | (with_reducible refine below_dn ?_) | (with_reducible refine Below.setCell ?_ ?_ _) | (with_reducible exact Nat.le_refl _) | omega | (simp only [World.size_alloc, World.size_setCell, World.size_drew]; omega) | (simp; omega) | (simp; done))))
  rw [hC]
  clear hC
  go_enter Tryd.func71, Tryd.ntmps71
  go_upto_region 1 with (fail)
  try rw [hG]
  generalize hw0 : w.alloc (.cells C 56) = w0 at K1 BW ⊢
  clear hw0 hG
  have RG := Lib.hid (show w0.rangeAt G 0 (D.map Hs.bv) from range_of (A := []) (M := D.map Hs.bv) (Z := []) (W := w0) (g := G) (t := 56) (by simpa using K1.out))
  go_wp2_with (with_reducible refine wpList_load_mid rfl 56 _ rfl G 0 rfl (D.map Hs.bv) _ RG.out Tryd.underlying56 rfl DI.out ?_)
  refine (CT.out _).mono ?_
  rintro e w2 ⟨rfl, hb⟩
  have B2 := Lib.hid (BW.out.trans (hb.mono BW.out.size))
  clear hb
  go_wp2
  go_ret
  exact ⟨rfl, B2.out⟩
set_option maxRecDepth 100000 in
theorem rints_any (l : List Int) (n : Nat) (hn : l.length = n) (h : ∀ x ∈ l, i64Ok x) (hl : n ≤ 30) (g : Nat) (X : World) (hb : Blk X g 3 (l.map fun x => Value.int .i64 x).toArray) :
    Calls Tryd.prog 70 #[.slice (some ⟨g, 0, none⟩) n n] X fun e w' => e = .returned (.string (numP l)) ∧ Below X.heap.size X w' := by
  have CI := Hs.rInts_any (some ⟨g, 0, none⟩) n l X (ints_blk hb) (fun k hk => h _ (by rw [List.getD_eq_getElem?_getD, List.getElem?_eq_getElem hk]; exact List.getElem_mem hk)) (by omega) (by have := intsL_le l h (by omega); omega)
  rw [hn] at CI
  have H6 := Lib.hid (intsL_lt l)
  unfold numP
  obtain ⟨L, hL⟩ : ∃ z, Hs.intsL l = z := ⟨_, rfl⟩
  rw [hL] at CI H6 ⊢
  have CI := Lib.hid CI
  clear h hl hb hL hn
  go_enter Tryd.func70, Tryd.ntmps70
  go_wp2_with fail
  refine CI.out.mono ?_
  rintro e w1 ⟨v, rfl, h1, hb1⟩
  obtain ⟨a9, c9, rfl, -, h9⟩ := Hs.OwnB.view h1 H6.out
  have hcv := Hs.conv_str L a9 c9 w1 h9
  have HB := Lib.hid hb1
  clear h1 hb1 h9
  go_wp2
  go_ret
  exact ⟨rfl, HB.out⟩
end
section
set_option linter.unusedVariables false
set_option linter.unusedSimpArgs false
open Go.RowKit Go.Sort
set_option maxRecDepth 100000 in
set_option maxHeartbeats 1000000 in
theorem rleaseParts_any (s e u r : Int) (D : List Nat) (w : World) (h1 : i64Ok s) (h2 : i64Ok e) (h3 : i64Ok u) (h4 : i64Ok r) :
    Calls Tryd.prog 35 #[.agg (leaseC s e u r D)] w fun e' w' => (∃ a c, e' = .returned (.slice a 1 c) ∧ StR w' a [leaseP s e u r]) ∧ Below w.heap.size w w' := by
  have NU := Lib.hid (fun (g : Nat) (X : World) (h : Blk X g 3 #[.int .i64 s, .int .i64 e, .int .i64 u, .int .i64 r]) => rints_any [s, e, u, r] 4 rfl (fun x hx => by
    simp only [List.mem_cons, List.not_mem_nil, or_false] at hx
    rcases hx with rfl | rfl | rfl | rfl <;> assumption) (by decide) g X h)
  obtain ⟨P, hP⟩ : ∃ P, leaseP s e u r = P := ⟨_, rfl⟩
  have hP2 : numP [s, e, u, r] = P := hP
  simp only [hP2] at NU
  rw [hP]
  clear hP hP2 h1 h2 h3 h4
  obtain ⟨C, hC⟩ : ∃ C, leaseC s e u r D = C := ⟨_, rfl⟩
  obtain ⟨G, hG⟩ : ∃ G, w.heap.size = G := ⟨_, rfl⟩
  have HG := Lib.hid hG
  have K1 := Lib.hid (show Blk (w.alloc (.cells C 64)) G 64 (leaseC s e u r D) from by rw [hC]; exact Blk.new' w _ _ _ hG rfl)
  have B := Lib.hid (show Below w.heap.size w (w.alloc (.cells C 64)) by (repeat' (first | (with_reducible exact Below.refl _ _) | (with_reducible assumption) | (with_reducible refine Below.alloc ?_ ?_ _) | (with_reducible refine Below.drew ?_) | (with_reducible refine below_dn ?_) | (with_reducible refine Below.setCell ?_ ?_ _) | (with_reducible exact Nat.le_refl _) | omega | (simp only [World.size_alloc, World.size_setCell, World.size_drew]; omega) | (simp; omega) | (simp; done))))
  rw [hC]
  clear hC
  go_enter Tryd.func35, Tryd.ntmps35
  go_upto_region 1 with (fail)
  try rw [hG]
  generalize hw0 : w.alloc (.cells C 64) = w0 at K1 B ⊢
  clear hw0 hG
  obtain ⟨d0, d1, d2, d3⟩ := lease_cells K1.out
  obtain ⟨Z, hZ⟩ : ∃ Z, w0.heap.size = Z := ⟨_, rfl⟩
  have K2 := Lib.hid (show Blk (w0.alloc (.cells #[.int .i64 s, .int .i64 e, .int .i64 u, .int .i64 r] 3)) Z 3 #[.int .i64 s, .int .i64 e, .int .i64 u, .int .i64 r] from Blk.new' w0 _ _ _ hZ rfl)
  have BB := Lib.hid (show Below w0.heap.size w0 (w0.alloc (.cells #[.int .i64 s, .int .i64 e, .int .i64 u, .int .i64 r] 3)) from by (repeat' (first | (with_reducible exact Below.refl _ _) | (with_reducible assumption) | (with_reducible refine Below.alloc ?_ ?_ _) | (with_reducible refine Below.drew ?_) | (with_reducible refine below_dn ?_) | (with_reducible refine Below.setCell ?_ ?_ _) | (with_reducible exact Nat.le_refl _) | omega | (simp only [World.size_alloc, World.size_setCell, World.size_drew]; omega) | (simp; omega) | (simp; done))))
  go_wp2_with fail
  try rw [hZ]
  refine (NU.out Z _ K2.out).mono ?_
  rintro e' w1 ⟨rfl, hb⟩
  replace B := Lib.hid (B.out.trans ((BB.out.trans (hb.mono BB.out.size)).mono B.out.size))
  clear hb K1 K2 BB NU d0 d1 d2 d3 hZ
  obtain ⟨Y, hY⟩ : ∃ Y, w1.heap.size = Y := ⟨_, rfl⟩
  have K3 := Lib.hid (show Blk (w1.alloc (.cells #[.string P] 9)) Y 9 #[.string P] from Blk.new' w1 _ _ _ hY rfl)
  replace B := Lib.hid (B.out.alloc B.out.size (.cells #[.string P] 9))
  go_wp2
  try rw [hY]
  go_ret
  exact ⟨⟨_, _, rfl, one_str _ _ P (oneb K3.out)⟩, B.out⟩
set_option maxRecDepth 100000 in
set_option maxHeartbeats 1000000 in
theorem rheadParts_any (si sz lo hi se : Int) (B : List Nat) (S : List Nat) (w : World) (hB : B.length = 16) (hb : ∀ x ∈ B, x < 256) (hsi : i64Ok si) (hsz : i64Ok sz) (hlo : i64Ok lo) (hhi : i64Ok hi) (hse : i64Ok se) :
    Calls Tryd.prog 37 #[.agg (recC [.int .i64 si, .int .i64 sz] B [.int .i64 lo, .int .i64 hi, .int .i64 se] S)] w fun e' w' => (∃ a c, e' = .returned (.slice a 2 c) ∧ StR w' a (headP si sz lo hi se B)) ∧ Below w.heap.size w w' := by
  unfold headP
  obtain ⟨G, hG⟩ : ∃ G, w.heap.size = G := ⟨_, rfl⟩
  have HG := Lib.hid hG
  have hN : ∀ x ∈ [si, sz, lo, hi, se], i64Ok x := fun x hx => by
    simp only [List.mem_cons, List.not_mem_nil, or_false] at hx
    rcases hx with rfl | rfl | rfl | rfl | rfl
    · exact hsi
    · exact hsz
    · exact hlo
    · exact hhi
    · exact hse
  have NU := Lib.hid (fun (g : Nat) (X : World) (h : Blk X g 3 #[.int .i64 si, .int .i64 sz, .int .i64 lo, .int .i64 hi, .int .i64 se]) => rints_any [si, sz, lo, hi, se] 5 rfl hN (by decide) g X h)
  obtain ⟨P, hP⟩ : ∃ P, numP [si, sz, lo, hi, se] = P := ⟨_, rfl⟩
  simp only [hP] at NU
  rw [hP]
  have DGT := Lib.hid (fun (X : World) => rdigest_any B X hB hb)
  obtain ⟨Q, hQ⟩ : ∃ Q, Hs.strB B = Q := ⟨_, rfl⟩
  simp only [hQ] at DGT
  rw [hQ]
  have DI := Lib.hid (show (Tryd.prog.info? 56).map (·.size) = some (B.map Hs.bv).length by rw [List.length_map, hB]; kernel_rfl)
  have HB := Lib.hid hB
  clear hP hQ hN hB hb hsi hsz hlo hhi hse
  obtain ⟨C, hC⟩ : ∃ C, (recC [.int .i64 si, .int .i64 sz] B [.int .i64 lo, .int .i64 hi, .int .i64 se] S) = C := ⟨_, rfl⟩
  have K1 := Lib.hid (show Blk (w.alloc (.cells C 66)) G 66 (recC [.int .i64 si, .int .i64 sz] B [.int .i64 lo, .int .i64 hi, .int .i64 se] S) from by rw [hC]; exact Blk.new' w _ _ _ hG rfl)
  have B0 := Lib.hid (show Below w.heap.size w (w.alloc (.cells C 66)) by (repeat' (first | (with_reducible exact Below.refl _ _) | (with_reducible assumption) | (with_reducible refine Below.alloc ?_ ?_ _) | (with_reducible refine Below.drew ?_) | (with_reducible refine below_dn ?_) | (with_reducible refine Below.setCell ?_ ?_ _) | (with_reducible exact Nat.le_refl _) | omega | (simp only [World.size_alloc, World.size_setCell, World.size_drew]; omega) | (simp; omega) | (simp; done))))
  rw [hC]
  clear hC
  go_enter Tryd.func37, Tryd.ntmps37
  go_upto_region 1 with (fail)
  try rw [hG]
  generalize hw0 : (w.alloc (.cells C 66)) = w0 at K1 B0 ⊢
  clear hw0 hG
  refine wp_region_held_drew (S := fun W => Blk W G 66 (recC [.int .i64 si, .int .i64 sz] B [.int .i64 lo, .int .i64 hi, .int .i64 se] S)) (by kernel_rfl) K1.out.drew (fun hHeld => ?_)
  replace B0 := Lib.hid B0.out.drew
  generalize w0.drew = w1 at B0 hHeld ⊢
  refine wpAnyH_take (i := 0) (v := .pointer (some ⟨G, 0, none⟩)) rfl (by kernel_rfl) (by kernel_rfl) (by kernel_rfl) (fun _ _ _ h => h) (Or.inl ⟨by rfl, fun W hW => by go_simp⟩) (by assumption) ?_
  (try simp only [Act.put, List.getElem_toArray, List.getElem_cons_succ, List.getElem_cons_zero, List.setIfInBounds_toArray, List.set_cons_zero, List.set_cons_succ])
  refine wpAnyH_take (i := 1) (v := .int .i64 si) rfl (by kernel_rfl) (by kernel_rfl) (by kernel_rfl) (fun _ _ _ h => h) (Or.inl ⟨by rfl, fun W hW => (by obtain ⟨ca0, ca1, cc0, cc1, cc2⟩ := head_cells HB.out hW; go_simp)⟩) (by assumption) ?_
  (try simp only [Act.put, List.getElem_toArray, List.getElem_cons_succ, List.getElem_cons_zero, List.setIfInBounds_toArray, List.set_cons_zero, List.set_cons_succ])
  refine wpAnyH_take (i := 2) (v := .pointer (some ⟨G, 1, none⟩)) rfl (by kernel_rfl) (by kernel_rfl) (by kernel_rfl) (fun _ _ _ h => h) (Or.inl ⟨by rfl, fun W hW => by go_simp⟩) (by assumption) ?_
  (try simp only [Act.put, List.getElem_toArray, List.getElem_cons_succ, List.getElem_cons_zero, List.setIfInBounds_toArray, List.set_cons_zero, List.set_cons_succ])
  refine wpAnyH_take (i := 3) (v := .int .i64 sz) rfl (by kernel_rfl) (by kernel_rfl) (by kernel_rfl) (fun _ _ _ h => h) (Or.inl ⟨by rfl, fun W hW => (by obtain ⟨ca0, ca1, cc0, cc1, cc2⟩ := head_cells HB.out hW; go_simp)⟩) (by assumption) ?_
  (try simp only [Act.put, List.getElem_toArray, List.getElem_cons_succ, List.getElem_cons_zero, List.setIfInBounds_toArray, List.set_cons_zero, List.set_cons_succ])
  refine wpAnyH_take (i := 4) (v := .pointer (some ⟨G, 18, none⟩)) rfl (by kernel_rfl) (by kernel_rfl) (by kernel_rfl) (fun _ _ _ h => h) (Or.inl ⟨by rfl, fun W hW => by go_simp⟩) (by assumption) ?_
  (try simp only [Act.put, List.getElem_toArray, List.getElem_cons_succ, List.getElem_cons_zero, List.setIfInBounds_toArray, List.set_cons_zero, List.set_cons_succ])
  refine wpAnyH_take (i := 5) (v := .pointer (some ⟨G, 18, none⟩)) rfl (by kernel_rfl) (by kernel_rfl) (by kernel_rfl) (fun _ _ _ h => h) (Or.inl ⟨by rfl, fun W hW => by go_simp⟩) (by assumption) ?_
  (try simp only [Act.put, List.getElem_toArray, List.getElem_cons_succ, List.getElem_cons_zero, List.setIfInBounds_toArray, List.set_cons_zero, List.set_cons_succ])
  refine wpAnyH_take (i := 6) (v := .int .i64 lo) rfl (by kernel_rfl) (by kernel_rfl) (by kernel_rfl) (fun _ _ _ h => h) (Or.inl ⟨by rfl, fun W hW => (by obtain ⟨ca0, ca1, cc0, cc1, cc2⟩ := head_cells HB.out hW; go_simp)⟩) (by assumption) ?_
  (try simp only [Act.put, List.getElem_toArray, List.getElem_cons_succ, List.getElem_cons_zero, List.setIfInBounds_toArray, List.set_cons_zero, List.set_cons_succ])
  refine wpAnyH_take (i := 7) (v := .pointer (some ⟨G, 18, none⟩)) rfl (by kernel_rfl) (by kernel_rfl) (by kernel_rfl) (fun _ _ _ h => h) (Or.inl ⟨by rfl, fun W hW => by go_simp⟩) (by assumption) ?_
  (try simp only [Act.put, List.getElem_toArray, List.getElem_cons_succ, List.getElem_cons_zero, List.setIfInBounds_toArray, List.set_cons_zero, List.set_cons_succ])
  refine wpAnyH_take (i := 8) (v := .pointer (some ⟨G, 19, none⟩)) rfl (by kernel_rfl) (by kernel_rfl) (by kernel_rfl) (fun _ _ _ h => h) (Or.inl ⟨by rfl, fun W hW => by go_simp⟩) (by assumption) ?_
  (try simp only [Act.put, List.getElem_toArray, List.getElem_cons_succ, List.getElem_cons_zero, List.setIfInBounds_toArray, List.set_cons_zero, List.set_cons_succ])
  refine wpAnyH_take (i := 9) (v := .int .i64 hi) rfl (by kernel_rfl) (by kernel_rfl) (by kernel_rfl) (fun _ _ _ h => h) (Or.inl ⟨by rfl, fun W hW => (by obtain ⟨ca0, ca1, cc0, cc1, cc2⟩ := head_cells HB.out hW; go_simp)⟩) (by assumption) ?_
  (try simp only [Act.put, List.getElem_toArray, List.getElem_cons_succ, List.getElem_cons_zero, List.setIfInBounds_toArray, List.set_cons_zero, List.set_cons_succ])
  refine wpAnyH_take (i := 10) (v := .pointer (some ⟨G, 20, none⟩)) rfl (by kernel_rfl) (by kernel_rfl) (by kernel_rfl) (fun _ _ _ h => h) (Or.inl ⟨by rfl, fun W hW => by go_simp⟩) (by assumption) ?_
  (try simp only [Act.put, List.getElem_toArray, List.getElem_cons_succ, List.getElem_cons_zero, List.setIfInBounds_toArray, List.set_cons_zero, List.set_cons_succ])
  refine wpAnyH_take (i := 11) (v := .int .i64 se) rfl (by kernel_rfl) (by kernel_rfl) (by kernel_rfl) (fun _ _ _ h => h) (Or.inl ⟨by rfl, fun W hW => (by obtain ⟨ca0, ca1, cc0, cc1, cc2⟩ := head_cells HB.out hW; go_simp)⟩) (by assumption) ?_
  (try simp only [Act.put, List.getElem_toArray, List.getElem_cons_succ, List.getElem_cons_zero, List.setIfInBounds_toArray, List.set_cons_zero, List.set_cons_succ])
  refine wpAnyH_take (i := 14) (v := .pointer (some ⟨G, 2, none⟩)) rfl (by kernel_rfl) (by kernel_rfl) (by kernel_rfl) (fun _ _ _ h => h) (Or.inl ⟨by rfl, fun W hW => by go_simp⟩) (by assumption) ?_
  (try simp only [Act.put, List.getElem_toArray, List.getElem_cons_succ, List.getElem_cons_zero, List.setIfInBounds_toArray, List.set_cons_zero, List.set_cons_succ])
  refine wpAnyH_take (i := 15) (v := .agg (B.map Hs.bv).toArray) rfl (by kernel_rfl) (by kernel_rfl) (by kernel_rfl) (fun _ _ _ h => h) (Or.inl ⟨by rfl, fun W hW => exec_load_mid 56 _ rfl G 2 rfl (B.map Hs.bv) _ (rec_B hW) Tryd.underlying56 rfl DI.out⟩) (by assumption) ?_
  (try simp only [Act.put, List.getElem_toArray, List.getElem_cons_succ, List.getElem_cons_zero, List.setIfInBounds_toArray, List.set_cons_zero, List.set_cons_succ])
  refine wpAnyH_ready (rs := [12]) (by kernel_rfl) (by simp) (AllReadyH.cons rfl (fun K hK => ?_) AllReadyH.nil)
  go_simp
  obtain ⟨g1, hg1⟩ : ∃ G, w1.heap.size = G := ⟨_, rfl⟩
  have Kg1 := Lib.hid (show Blk (w1.alloc (.cells #[.int .i64 si, .int .i64 sz, .int .i64 lo, .int .i64 hi, .int .i64 se] 3)) g1 3 #[.int .i64 si, .int .i64 sz, .int .i64 lo, .int .i64 hi, .int .i64 se] from Blk.new' w1 _ _ _ hg1 rfl)
  have hb := (Below.refl _ w1).alloc (Nat.le_refl _) (.cells #[.int .i64 si, .int .i64 sz, .int .i64 lo, .int .i64 hi, .int .i64 se] 3)
  replace B0 := Lib.hid (B0.out.trans (hb.mono B0.out.size))
  rw [hg1]
  refine hK _ _ (hHeld.below hb hHeld.lt) (fun heldw11 => ?_)
  clear hK K hHeld
  (try simp only [Act.put, List.getElem_toArray, List.getElem_cons_succ, List.getElem_cons_zero, List.setIfInBounds_toArray, List.set_cons_zero, List.set_cons_succ])
  clear hb
  generalize hw2 : w1.alloc (.cells #[.int .i64 si, .int .i64 sz, .int .i64 lo, .int .i64 hi, .int .i64 se] 3) = w11 at Kg1 B0 heldw11 ⊢
  clear hw2 hg1
  refine wpAnyH_ready (rs := [13]) (by kernel_rfl) (by simp) (AllReadyH.cons rfl (fun K hK => ?_) AllReadyH.nil)
  go_simp
  refine (NU.out g1 _ Kg1.out).mono ?_
  rintro e9 w13 ⟨rfl, hb⟩
  replace B0 := Lib.hid (B0.out.trans (hb.mono B0.out.size))
  go_wp2_with fail
  refine hK _ _ (heldw11.below hb heldw11.lt) (fun heldw13 => ?_)
  clear hK K heldw11
  (try simp only [Act.put, List.getElem_toArray, List.getElem_cons_succ, List.getElem_cons_zero, List.setIfInBounds_toArray, List.set_cons_zero, List.set_cons_succ])
  clear hb
  clear Kg1
  refine wpAnyH_ready (rs := [16]) (by kernel_rfl) (by simp) (AllReadyH.cons rfl (fun K hK => ?_) AllReadyH.nil)
  go_simp
  refine (DGT.out _).mono ?_
  rintro e9 w15 ⟨rfl, hb⟩
  replace B0 := Lib.hid (B0.out.trans (hb.mono B0.out.size))
  go_wp2_with fail
  refine hK _ _ (heldw13.below hb heldw13.lt) (fun heldw15 => ?_)
  clear hK K heldw13
  (try simp only [Act.put, List.getElem_toArray, List.getElem_cons_succ, List.getElem_cons_zero, List.setIfInBounds_toArray, List.set_cons_zero, List.set_cons_succ])
  clear hb
  refine wpAnyH_ready (rs := [17]) (by kernel_rfl) (by simp) (AllReadyH.cons rfl (fun K hK => ?_) AllReadyH.nil)
  go_simp
  obtain ⟨g2, hg2⟩ : ∃ G, w15.heap.size = G := ⟨_, rfl⟩
  have Kg2 := Lib.hid (show Blk (w15.alloc (.cells #[.string P, .string Q] 9)) g2 9 #[.string P, .string Q] from Blk.new' w15 _ _ _ hg2 rfl)
  have hb := (Below.refl _ w15).alloc (Nat.le_refl _) (.cells #[.string P, .string Q] 9)
  replace B0 := Lib.hid (B0.out.trans (hb.mono B0.out.size))
  rw [hg2]
  refine hK _ _ (heldw15.below hb heldw15.lt) (fun heldw17 => ?_)
  clear hK K heldw15
  (try simp only [Act.put, List.getElem_toArray, List.getElem_cons_succ, List.getElem_cons_zero, List.setIfInBounds_toArray, List.set_cons_zero, List.set_cons_succ])
  clear hb
  generalize hw2 : w15.alloc (.cells #[.string P, .string Q] 9) = w17 at Kg2 B0 heldw17 ⊢
  clear hw2 hg2
  refine wpAnyH_take (i := 18) (v := .slice (some ⟨g2, 0, none⟩) 2 2) rfl (by kernel_rfl) (by kernel_rfl) (by kernel_rfl) (fun _ _ _ h => h) (Or.inl ⟨by rfl, fun W hW => by go_simp⟩) (by assumption) ?_
  (try simp only [Act.put, List.getElem_toArray, List.getElem_cons_succ, List.getElem_cons_zero, List.setIfInBounds_toArray, List.set_cons_zero, List.set_cons_succ])
  refine wpAnyH_done (by kernel_rfl) ?_ _
  go_wp2
  go_ret
  exact ⟨⟨_, _, rfl, strs_blk (l := [P, Q]) Kg2.out⟩, B0.out⟩
set_option maxRecDepth 100000 in
set_option maxHeartbeats 1000000 in
theorem rstampParts_any (ad va tg : ByteArray) (st sz lo hi ga se : Int) (B : List Nat) (S : List Nat) (w : World) (hB : B.length = 16) (hb : ∀ x ∈ B, x < 256) (hst : i64Ok st) (hsz : i64Ok sz) (hlo : i64Ok lo) (hhi : i64Ok hi) (hga : i64Ok ga) (hse : i64Ok se) :
    Calls Tryd.prog 31 #[.agg (recC [.string ad, .string va, .int .i64 st, .int .i64 sz] B [.string tg, .int .i64 lo, .int .i64 hi, .int .i64 ga, .int .i64 se] S)] w fun e' w' => (∃ a c, e' = .returned (.slice a 5 c) ∧ StR w' a (stampP ad va tg st sz lo hi ga se B)) ∧ Below w.heap.size w w' := by
  unfold stampP
  obtain ⟨G, hG⟩ : ∃ G, w.heap.size = G := ⟨_, rfl⟩
  have HG := Lib.hid hG
  have hN : ∀ x ∈ [st, sz, lo, hi, ga, se], i64Ok x := fun x hx => by
    simp only [List.mem_cons, List.not_mem_nil, or_false] at hx
    rcases hx with rfl | rfl | rfl | rfl | rfl | rfl
    · exact hst
    · exact hsz
    · exact hlo
    · exact hhi
    · exact hga
    · exact hse
  have NU := Lib.hid (fun (g : Nat) (X : World) (h : Blk X g 3 #[.int .i64 st, .int .i64 sz, .int .i64 lo, .int .i64 hi, .int .i64 ga, .int .i64 se]) => rints_any [st, sz, lo, hi, ga, se] 6 rfl hN (by decide) g X h)
  obtain ⟨P, hP⟩ : ∃ P, numP [st, sz, lo, hi, ga, se] = P := ⟨_, rfl⟩
  simp only [hP] at NU
  rw [hP]
  have DGT := Lib.hid (fun (X : World) => rdigest_any B X hB hb)
  obtain ⟨Q, hQ⟩ : ∃ Q, Hs.strB B = Q := ⟨_, rfl⟩
  simp only [hQ] at DGT
  rw [hQ]
  have DI := Lib.hid (show (Tryd.prog.info? 56).map (·.size) = some (B.map Hs.bv).length by rw [List.length_map, hB]; kernel_rfl)
  have HB := Lib.hid hB
  clear hP hQ hN hB hb hst hsz hlo hhi hga hse
  obtain ⟨C, hC⟩ : ∃ C, (recC [.string ad, .string va, .int .i64 st, .int .i64 sz] B [.string tg, .int .i64 lo, .int .i64 hi, .int .i64 ga, .int .i64 se] S) = C := ⟨_, rfl⟩
  have K1 := Lib.hid (show Blk (w.alloc (.cells C 58)) G 58 (recC [.string ad, .string va, .int .i64 st, .int .i64 sz] B [.string tg, .int .i64 lo, .int .i64 hi, .int .i64 ga, .int .i64 se] S) from by rw [hC]; exact Blk.new' w _ _ _ hG rfl)
  have B0 := Lib.hid (show Below w.heap.size w (w.alloc (.cells C 58)) by (repeat' (first | (with_reducible exact Below.refl _ _) | (with_reducible assumption) | (with_reducible refine Below.alloc ?_ ?_ _) | (with_reducible refine Below.drew ?_) | (with_reducible refine below_dn ?_) | (with_reducible refine Below.setCell ?_ ?_ _) | (with_reducible exact Nat.le_refl _) | omega | (simp only [World.size_alloc, World.size_setCell, World.size_drew]; omega) | (simp; omega) | (simp; done))))
  rw [hC]
  clear hC
  go_enter Tryd.func31, Tryd.ntmps31
  go_upto_region 1 with (fail)
  try rw [hG]
  generalize hw0 : (w.alloc (.cells C 58)) = w0 at K1 B0 ⊢
  clear hw0 hG
  refine wp_region_held_drew (S := fun W => Blk W G 58 (recC [.string ad, .string va, .int .i64 st, .int .i64 sz] B [.string tg, .int .i64 lo, .int .i64 hi, .int .i64 ga, .int .i64 se] S)) (by kernel_rfl) K1.out.drew (fun hHeld => ?_)
  replace B0 := Lib.hid B0.out.drew
  generalize w0.drew = w1 at B0 hHeld ⊢
  refine wpAnyH_take (i := 0) (v := .pointer (some ⟨G, 0, none⟩)) rfl (by kernel_rfl) (by kernel_rfl) (by kernel_rfl) (fun _ _ _ h => h) (Or.inl ⟨by rfl, fun W hW => by go_simp⟩) (by assumption) ?_
  (try simp only [Act.put, List.getElem_toArray, List.getElem_cons_succ, List.getElem_cons_zero, List.setIfInBounds_toArray, List.set_cons_zero, List.set_cons_succ])
  refine wpAnyH_take (i := 1) (v := .string ad) rfl (by kernel_rfl) (by kernel_rfl) (by kernel_rfl) (fun _ _ _ h => h) (Or.inl ⟨by rfl, fun W hW => (by obtain ⟨ca0, ca1, ca2, ca3, cc0, cc1, cc2, cc3, cc4⟩ := stamp_cells HB.out hW; go_simp)⟩) (by assumption) ?_
  (try simp only [Act.put, List.getElem_toArray, List.getElem_cons_succ, List.getElem_cons_zero, List.setIfInBounds_toArray, List.set_cons_zero, List.set_cons_succ])
  refine wpAnyH_take (i := 2) (v := .pointer (some ⟨G, 1, none⟩)) rfl (by kernel_rfl) (by kernel_rfl) (by kernel_rfl) (fun _ _ _ h => h) (Or.inl ⟨by rfl, fun W hW => by go_simp⟩) (by assumption) ?_
  (try simp only [Act.put, List.getElem_toArray, List.getElem_cons_succ, List.getElem_cons_zero, List.setIfInBounds_toArray, List.set_cons_zero, List.set_cons_succ])
  refine wpAnyH_take (i := 3) (v := .string va) rfl (by kernel_rfl) (by kernel_rfl) (by kernel_rfl) (fun _ _ _ h => h) (Or.inl ⟨by rfl, fun W hW => (by obtain ⟨ca0, ca1, ca2, ca3, cc0, cc1, cc2, cc3, cc4⟩ := stamp_cells HB.out hW; go_simp)⟩) (by assumption) ?_
  (try simp only [Act.put, List.getElem_toArray, List.getElem_cons_succ, List.getElem_cons_zero, List.setIfInBounds_toArray, List.set_cons_zero, List.set_cons_succ])
  refine wpAnyH_take (i := 4) (v := .pointer (some ⟨G, 2, none⟩)) rfl (by kernel_rfl) (by kernel_rfl) (by kernel_rfl) (fun _ _ _ h => h) (Or.inl ⟨by rfl, fun W hW => by go_simp⟩) (by assumption) ?_
  (try simp only [Act.put, List.getElem_toArray, List.getElem_cons_succ, List.getElem_cons_zero, List.setIfInBounds_toArray, List.set_cons_zero, List.set_cons_succ])
  refine wpAnyH_take (i := 5) (v := .int .i64 st) rfl (by kernel_rfl) (by kernel_rfl) (by kernel_rfl) (fun _ _ _ h => h) (Or.inl ⟨by rfl, fun W hW => (by obtain ⟨ca0, ca1, ca2, ca3, cc0, cc1, cc2, cc3, cc4⟩ := stamp_cells HB.out hW; go_simp)⟩) (by assumption) ?_
  (try simp only [Act.put, List.getElem_toArray, List.getElem_cons_succ, List.getElem_cons_zero, List.setIfInBounds_toArray, List.set_cons_zero, List.set_cons_succ])
  refine wpAnyH_take (i := 6) (v := .pointer (some ⟨G, 3, none⟩)) rfl (by kernel_rfl) (by kernel_rfl) (by kernel_rfl) (fun _ _ _ h => h) (Or.inl ⟨by rfl, fun W hW => by go_simp⟩) (by assumption) ?_
  (try simp only [Act.put, List.getElem_toArray, List.getElem_cons_succ, List.getElem_cons_zero, List.setIfInBounds_toArray, List.set_cons_zero, List.set_cons_succ])
  refine wpAnyH_take (i := 7) (v := .int .i64 sz) rfl (by kernel_rfl) (by kernel_rfl) (by kernel_rfl) (fun _ _ _ h => h) (Or.inl ⟨by rfl, fun W hW => (by obtain ⟨ca0, ca1, ca2, ca3, cc0, cc1, cc2, cc3, cc4⟩ := stamp_cells HB.out hW; go_simp)⟩) (by assumption) ?_
  (try simp only [Act.put, List.getElem_toArray, List.getElem_cons_succ, List.getElem_cons_zero, List.setIfInBounds_toArray, List.set_cons_zero, List.set_cons_succ])
  refine wpAnyH_take (i := 8) (v := .pointer (some ⟨G, 21, none⟩)) rfl (by kernel_rfl) (by kernel_rfl) (by kernel_rfl) (fun _ _ _ h => h) (Or.inl ⟨by rfl, fun W hW => by go_simp⟩) (by assumption) ?_
  (try simp only [Act.put, List.getElem_toArray, List.getElem_cons_succ, List.getElem_cons_zero, List.setIfInBounds_toArray, List.set_cons_zero, List.set_cons_succ])
  refine wpAnyH_take (i := 9) (v := .pointer (some ⟨G, 21, none⟩)) rfl (by kernel_rfl) (by kernel_rfl) (by kernel_rfl) (fun _ _ _ h => h) (Or.inl ⟨by rfl, fun W hW => by go_simp⟩) (by assumption) ?_
  (try simp only [Act.put, List.getElem_toArray, List.getElem_cons_succ, List.getElem_cons_zero, List.setIfInBounds_toArray, List.set_cons_zero, List.set_cons_succ])
  refine wpAnyH_take (i := 10) (v := .int .i64 lo) rfl (by kernel_rfl) (by kernel_rfl) (by kernel_rfl) (fun _ _ _ h => h) (Or.inl ⟨by rfl, fun W hW => (by obtain ⟨ca0, ca1, ca2, ca3, cc0, cc1, cc2, cc3, cc4⟩ := stamp_cells HB.out hW; go_simp)⟩) (by assumption) ?_
  (try simp only [Act.put, List.getElem_toArray, List.getElem_cons_succ, List.getElem_cons_zero, List.setIfInBounds_toArray, List.set_cons_zero, List.set_cons_succ])
  refine wpAnyH_take (i := 11) (v := .pointer (some ⟨G, 21, none⟩)) rfl (by kernel_rfl) (by kernel_rfl) (by kernel_rfl) (fun _ _ _ h => h) (Or.inl ⟨by rfl, fun W hW => by go_simp⟩) (by assumption) ?_
  (try simp only [Act.put, List.getElem_toArray, List.getElem_cons_succ, List.getElem_cons_zero, List.setIfInBounds_toArray, List.set_cons_zero, List.set_cons_succ])
  refine wpAnyH_take (i := 12) (v := .pointer (some ⟨G, 22, none⟩)) rfl (by kernel_rfl) (by kernel_rfl) (by kernel_rfl) (fun _ _ _ h => h) (Or.inl ⟨by rfl, fun W hW => by go_simp⟩) (by assumption) ?_
  (try simp only [Act.put, List.getElem_toArray, List.getElem_cons_succ, List.getElem_cons_zero, List.setIfInBounds_toArray, List.set_cons_zero, List.set_cons_succ])
  refine wpAnyH_take (i := 13) (v := .int .i64 hi) rfl (by kernel_rfl) (by kernel_rfl) (by kernel_rfl) (fun _ _ _ h => h) (Or.inl ⟨by rfl, fun W hW => (by obtain ⟨ca0, ca1, ca2, ca3, cc0, cc1, cc2, cc3, cc4⟩ := stamp_cells HB.out hW; go_simp)⟩) (by assumption) ?_
  (try simp only [Act.put, List.getElem_toArray, List.getElem_cons_succ, List.getElem_cons_zero, List.setIfInBounds_toArray, List.set_cons_zero, List.set_cons_succ])
  refine wpAnyH_take (i := 14) (v := .pointer (some ⟨G, 23, none⟩)) rfl (by kernel_rfl) (by kernel_rfl) (by kernel_rfl) (fun _ _ _ h => h) (Or.inl ⟨by rfl, fun W hW => by go_simp⟩) (by assumption) ?_
  (try simp only [Act.put, List.getElem_toArray, List.getElem_cons_succ, List.getElem_cons_zero, List.setIfInBounds_toArray, List.set_cons_zero, List.set_cons_succ])
  refine wpAnyH_take (i := 15) (v := .int .i64 ga) rfl (by kernel_rfl) (by kernel_rfl) (by kernel_rfl) (fun _ _ _ h => h) (Or.inl ⟨by rfl, fun W hW => (by obtain ⟨ca0, ca1, ca2, ca3, cc0, cc1, cc2, cc3, cc4⟩ := stamp_cells HB.out hW; go_simp)⟩) (by assumption) ?_
  (try simp only [Act.put, List.getElem_toArray, List.getElem_cons_succ, List.getElem_cons_zero, List.setIfInBounds_toArray, List.set_cons_zero, List.set_cons_succ])
  refine wpAnyH_take (i := 16) (v := .pointer (some ⟨G, 24, none⟩)) rfl (by kernel_rfl) (by kernel_rfl) (by kernel_rfl) (fun _ _ _ h => h) (Or.inl ⟨by rfl, fun W hW => by go_simp⟩) (by assumption) ?_
  (try simp only [Act.put, List.getElem_toArray, List.getElem_cons_succ, List.getElem_cons_zero, List.setIfInBounds_toArray, List.set_cons_zero, List.set_cons_succ])
  refine wpAnyH_take (i := 17) (v := .int .i64 se) rfl (by kernel_rfl) (by kernel_rfl) (by kernel_rfl) (fun _ _ _ h => h) (Or.inl ⟨by rfl, fun W hW => (by obtain ⟨ca0, ca1, ca2, ca3, cc0, cc1, cc2, cc3, cc4⟩ := stamp_cells HB.out hW; go_simp)⟩) (by assumption) ?_
  (try simp only [Act.put, List.getElem_toArray, List.getElem_cons_succ, List.getElem_cons_zero, List.setIfInBounds_toArray, List.set_cons_zero, List.set_cons_succ])
  refine wpAnyH_take (i := 20) (v := .pointer (some ⟨G, 4, none⟩)) rfl (by kernel_rfl) (by kernel_rfl) (by kernel_rfl) (fun _ _ _ h => h) (Or.inl ⟨by rfl, fun W hW => by go_simp⟩) (by assumption) ?_
  (try simp only [Act.put, List.getElem_toArray, List.getElem_cons_succ, List.getElem_cons_zero, List.setIfInBounds_toArray, List.set_cons_zero, List.set_cons_succ])
  refine wpAnyH_take (i := 21) (v := .agg (B.map Hs.bv).toArray) rfl (by kernel_rfl) (by kernel_rfl) (by kernel_rfl) (fun _ _ _ h => h) (Or.inl ⟨by rfl, fun W hW => exec_load_mid 56 _ rfl G 4 rfl (B.map Hs.bv) _ (rec_B hW) Tryd.underlying56 rfl DI.out⟩) (by assumption) ?_
  (try simp only [Act.put, List.getElem_toArray, List.getElem_cons_succ, List.getElem_cons_zero, List.setIfInBounds_toArray, List.set_cons_zero, List.set_cons_succ])
  refine wpAnyH_take (i := 23) (v := .pointer (some ⟨G, 20, none⟩)) rfl (by kernel_rfl) (by kernel_rfl) (by kernel_rfl) (fun _ _ _ h => h) (Or.inl ⟨by rfl, fun W hW => by go_simp⟩) (by assumption) ?_
  (try simp only [Act.put, List.getElem_toArray, List.getElem_cons_succ, List.getElem_cons_zero, List.setIfInBounds_toArray, List.set_cons_zero, List.set_cons_succ])
  refine wpAnyH_take (i := 24) (v := .string tg) rfl (by kernel_rfl) (by kernel_rfl) (by kernel_rfl) (fun _ _ _ h => h) (Or.inl ⟨by rfl, fun W hW => (by obtain ⟨ca0, ca1, ca2, ca3, cc0, cc1, cc2, cc3, cc4⟩ := stamp_cells HB.out hW; go_simp)⟩) (by assumption) ?_
  (try simp only [Act.put, List.getElem_toArray, List.getElem_cons_succ, List.getElem_cons_zero, List.setIfInBounds_toArray, List.set_cons_zero, List.set_cons_succ])
  refine wpAnyH_ready (rs := [18]) (by kernel_rfl) (by simp) (AllReadyH.cons rfl (fun K hK => ?_) AllReadyH.nil)
  go_simp
  obtain ⟨g1, hg1⟩ : ∃ G, w1.heap.size = G := ⟨_, rfl⟩
  have Kg1 := Lib.hid (show Blk (w1.alloc (.cells #[.int .i64 st, .int .i64 sz, .int .i64 lo, .int .i64 hi, .int .i64 ga, .int .i64 se] 3)) g1 3 #[.int .i64 st, .int .i64 sz, .int .i64 lo, .int .i64 hi, .int .i64 ga, .int .i64 se] from Blk.new' w1 _ _ _ hg1 rfl)
  have hb := (Below.refl _ w1).alloc (Nat.le_refl _) (.cells #[.int .i64 st, .int .i64 sz, .int .i64 lo, .int .i64 hi, .int .i64 ga, .int .i64 se] 3)
  replace B0 := Lib.hid (B0.out.trans (hb.mono B0.out.size))
  rw [hg1]
  refine hK _ _ (hHeld.below hb hHeld.lt) (fun heldw11 => ?_)
  clear hK K hHeld
  (try simp only [Act.put, List.getElem_toArray, List.getElem_cons_succ, List.getElem_cons_zero, List.setIfInBounds_toArray, List.set_cons_zero, List.set_cons_succ])
  clear hb
  generalize hw2 : w1.alloc (.cells #[.int .i64 st, .int .i64 sz, .int .i64 lo, .int .i64 hi, .int .i64 ga, .int .i64 se] 3) = w11 at Kg1 B0 heldw11 ⊢
  clear hw2 hg1
  refine wpAnyH_ready (rs := [19]) (by kernel_rfl) (by simp) (AllReadyH.cons rfl (fun K hK => ?_) AllReadyH.nil)
  go_simp
  refine (NU.out g1 _ Kg1.out).mono ?_
  rintro e9 w13 ⟨rfl, hb⟩
  replace B0 := Lib.hid (B0.out.trans (hb.mono B0.out.size))
  go_wp2_with fail
  refine hK _ _ (heldw11.below hb heldw11.lt) (fun heldw13 => ?_)
  clear hK K heldw11
  (try simp only [Act.put, List.getElem_toArray, List.getElem_cons_succ, List.getElem_cons_zero, List.setIfInBounds_toArray, List.set_cons_zero, List.set_cons_succ])
  clear hb
  clear Kg1
  refine wpAnyH_ready (rs := [22]) (by kernel_rfl) (by simp) (AllReadyH.cons rfl (fun K hK => ?_) AllReadyH.nil)
  go_simp
  refine (DGT.out _).mono ?_
  rintro e9 w15 ⟨rfl, hb⟩
  replace B0 := Lib.hid (B0.out.trans (hb.mono B0.out.size))
  go_wp2_with fail
  refine hK _ _ (heldw13.below hb heldw13.lt) (fun heldw15 => ?_)
  clear hK K heldw13
  (try simp only [Act.put, List.getElem_toArray, List.getElem_cons_succ, List.getElem_cons_zero, List.setIfInBounds_toArray, List.set_cons_zero, List.set_cons_succ])
  clear hb
  refine wpAnyH_ready (rs := [25]) (by kernel_rfl) (by simp) (AllReadyH.cons rfl (fun K hK => ?_) AllReadyH.nil)
  go_simp
  obtain ⟨g2, hg2⟩ : ∃ G, w15.heap.size = G := ⟨_, rfl⟩
  have Kg2 := Lib.hid (show Blk (w15.alloc (.cells #[.string ad, .string va, .string P, .string Q, .string tg] 9)) g2 9 #[.string ad, .string va, .string P, .string Q, .string tg] from Blk.new' w15 _ _ _ hg2 rfl)
  have hb := (Below.refl _ w15).alloc (Nat.le_refl _) (.cells #[.string ad, .string va, .string P, .string Q, .string tg] 9)
  replace B0 := Lib.hid (B0.out.trans (hb.mono B0.out.size))
  rw [hg2]
  refine hK _ _ (heldw15.below hb heldw15.lt) (fun heldw17 => ?_)
  clear hK K heldw15
  (try simp only [Act.put, List.getElem_toArray, List.getElem_cons_succ, List.getElem_cons_zero, List.setIfInBounds_toArray, List.set_cons_zero, List.set_cons_succ])
  clear hb
  generalize hw2 : w15.alloc (.cells #[.string ad, .string va, .string P, .string Q, .string tg] 9) = w17 at Kg2 B0 heldw17 ⊢
  clear hw2 hg2
  refine wpAnyH_take (i := 26) (v := .slice (some ⟨g2, 0, none⟩) 5 5) rfl (by kernel_rfl) (by kernel_rfl) (by kernel_rfl) (fun _ _ _ h => h) (Or.inl ⟨by rfl, fun W hW => by go_simp⟩) (by assumption) ?_
  (try simp only [Act.put, List.getElem_toArray, List.getElem_cons_succ, List.getElem_cons_zero, List.setIfInBounds_toArray, List.set_cons_zero, List.set_cons_succ])
  refine wpAnyH_done (by kernel_rfl) ?_ _
  go_wp2
  go_ret
  exact ⟨⟨_, _, rfl, strs_blk (l := [ad, va, P, Q, tg]) Kg2.out⟩, B0.out⟩
end
section
set_option linter.unusedVariables false
set_option linter.unusedSimpArgs false
open Go.RowKit Go.Sort
theorem rone_any (b : Bool) (w : World) : Calls Tryd.prog 72 #[.bool b] w fun e w' => e = .returned (.int .i64 (if b then 1 else 0)) ∧ w = w' := by
  cases b <;> (go_enter Tryd.func72, Tryd.ntmps72; go_wp2; go_ret; exact ⟨rfl, rfl⟩)
set_option maxRecDepth 100000 in
set_option maxHeartbeats 2000000 in
theorem repochParts_any (nu lo hi se : Int) (B : List Nat) (S : List Nat) (pa : Option Addr) (pc : Nat) (pl : List Pu) (ra : Option Addr) (rc : Nat) (rl : List Dg) (w : World) (hB : B.length = 16) (hb : ∀ x ∈ B, x < 256) (hnu : i64Ok nu) (hlo : i64Ok lo) (hhi : i64Ok hi) (hse : i64Ok se) (hT : EpOk pl rl) (hm : EpM w pa pl ra rl) :
    Calls Tryd.prog 33 #[.agg (recC [.int .i64 nu] B [.int .i64 lo, .int .i64 hi, .slice pa pl.length pc, .slice ra rl.length rc, .int .i64 se] S)] w fun e' w' => (∃ a c, e' = .returned (.slice a (epochP nu lo hi se B pl rl).length c) ∧ StR w' a (epochP nu lo hi se B pl rl)) ∧ Below w.heap.size w w' := by
  unfold epochP
  have HOK := Lib.hid hT
  have HM := Lib.hid hm
  have hN1 := hT.1
  have hN2 := hT.2.1
  obtain ⟨N, hN⟩ : ∃ n, pl.length = n := ⟨_, rfl⟩
  obtain ⟨M, hM⟩ : ∃ n, rl.length = n := ⟨_, rfl⟩
  have HN := Lib.hid hN
  have HMl := Lib.hid hM
  rw [hN, hM]
  rw [hN] at hN1
  rw [hM] at hN2
  have N1 := Lib.hid hN1
  have N2 := Lib.hid hN2
  have hNL : ∀ x ∈ [nu, lo, hi, se, (N : Int)], i64Ok x := fun x hx => by
    simp only [List.mem_cons, List.not_mem_nil, or_false] at hx
    rcases hx with rfl | rfl | rfl | rfl | rfl
    · exact hnu
    · exact hlo
    · exact hhi
    · exact hse
    · unfold i64Ok; omega
  have NU := Lib.hid (fun (g : Nat) (X : World) (h : Blk X g 3 #[.int .i64 nu, .int .i64 lo, .int .i64 hi, .int .i64 se, .int .i64 (N : Int)]) => rints_any [nu, lo, hi, se, (N : Int)] 5 rfl hNL (by decide) g X h)
  have NU2 := Lib.hid (fun (x u : Int) (hx : i64Ok x ∧ i64Ok u) (g : Nat) (X : World) (h : Blk X g 3 #[.int .i64 x, .int .i64 u]) => rints_any [x, u] 2 rfl (fun y hy => by
    simp only [List.mem_cons, List.not_mem_nil, or_false] at hy
    rcases hy with rfl | rfl
    · exact hx.1
    · exact hx.2) (by decide) g X h)
  obtain ⟨P, hP⟩ : ∃ P, numP [nu, lo, hi, se, (N : Int)] = P := ⟨_, rfl⟩
  simp only [hP] at NU
  rw [hP]
  obtain ⟨G, hG⟩ : ∃ G, w.heap.size = G := ⟨_, rfl⟩
  have HG := Lib.hid hG
  have DGT := Lib.hid (fun (X : World) => rdigest_any B X hB hb)
  have DGX := Lib.hid (fun (x : Dg) (X : World) => show Calls Tryd.prog 71 #[.agg (x.1.map Hs.bv).toArray] X fun e w' => e = .returned (.string (dgP x)) ∧ Below X.heap.size X w' from rdigest_any x.1 X x.2.1 x.2.2)
  have ONE := Lib.hid rone_any
  obtain ⟨Q, hQ⟩ : ∃ Q, Hs.strB B = Q := ⟨_, rfl⟩
  simp only [hQ] at DGT
  rw [hQ]
  have DI := Lib.hid (show (Tryd.prog.info? 56).map (·.size) = some (B.map Hs.bv).length by rw [List.length_map, hB]; kernel_rfl)
  have HB := Lib.hid hB
  clear hP hQ hNL hN hM hN1 hN2 hB hb hT hm hnu hlo hhi hse
  obtain ⟨C, hC⟩ : ∃ C, (recC [.int .i64 nu] B [.int .i64 lo, .int .i64 hi, .slice pa N pc, .slice ra M rc, .int .i64 se] S) = C := ⟨_, rfl⟩
  have K1 := Lib.hid (show Blk (w.alloc (.cells C 62)) G 62 (recC [.int .i64 nu] B [.int .i64 lo, .int .i64 hi, .slice pa N pc, .slice ra M rc, .int .i64 se] S) from by rw [hC]; exact Blk.new' w _ _ _ hG rfl)
  have BW := Lib.hid (show Below w.heap.size w (w.alloc (.cells C 62)) by (repeat' (first | (with_reducible exact Below.refl _ _) | (with_reducible assumption) | (with_reducible refine Below.alloc ?_ ?_ _) | (with_reducible refine Below.drew ?_) | (with_reducible refine below_dn ?_) | (with_reducible refine Below.setCell ?_ ?_ _) | (with_reducible exact Nat.le_refl _) | omega | (simp only [World.size_alloc, World.size_setCell, World.size_drew]; omega) | (simp; omega) | (simp; done))))
  rw [hC]
  clear hC
  go_enter Tryd.func33, Tryd.ntmps33
  go_upto_region 1 with (fail)
  try rw [hG]
  generalize hw0 : (w.alloc (.cells C 62)) = w0 at K1 BW ⊢
  clear hw0 hG
  have GZ := Lib.hid K1.out.lt
  have B0 := Lib.hid (Below.refl w0.heap.size w0)
  refine wp_region_held_drew (S := fun W => Blk W G 62 (recC [.int .i64 nu] B [.int .i64 lo, .int .i64 hi, .slice pa N pc, .slice ra M rc, .int .i64 se] S)) (by kernel_rfl) K1.out.drew (fun hHeld => ?_)
  replace B0 := Lib.hid B0.out.drew
  generalize w0.drew = w1 at B0 hHeld ⊢
  refine wpAnyH_take (i := 0) (v := .pointer (some ⟨G, 0, none⟩)) rfl (by kernel_rfl) (by kernel_rfl) (by kernel_rfl) (fun _ _ _ h => h) (Or.inl ⟨by rfl, fun W hW => by go_simp⟩) (by assumption) ?_
  (try simp only [Act.put, List.getElem_toArray, List.getElem_cons_succ, List.getElem_cons_zero, List.setIfInBounds_toArray, List.set_cons_zero, List.set_cons_succ])
  refine wpAnyH_take (i := 1) (v := .int .i64 nu) rfl (by kernel_rfl) (by kernel_rfl) (by kernel_rfl) (fun _ _ _ h => h) (Or.inl ⟨by rfl, fun W hW => (by obtain ⟨ca0, cc0, cc1, cc2, cc3, cc4⟩ := epoch_cells HB.out hW; go_simp)⟩) (by assumption) ?_
  (try simp only [Act.put, List.getElem_toArray, List.getElem_cons_succ, List.getElem_cons_zero, List.setIfInBounds_toArray, List.set_cons_zero, List.set_cons_succ])
  refine wpAnyH_take (i := 2) (v := .pointer (some ⟨G, 17, none⟩)) rfl (by kernel_rfl) (by kernel_rfl) (by kernel_rfl) (fun _ _ _ h => h) (Or.inl ⟨by rfl, fun W hW => by go_simp⟩) (by assumption) ?_
  (try simp only [Act.put, List.getElem_toArray, List.getElem_cons_succ, List.getElem_cons_zero, List.setIfInBounds_toArray, List.set_cons_zero, List.set_cons_succ])
  refine wpAnyH_take (i := 3) (v := .pointer (some ⟨G, 17, none⟩)) rfl (by kernel_rfl) (by kernel_rfl) (by kernel_rfl) (fun _ _ _ h => h) (Or.inl ⟨by rfl, fun W hW => by go_simp⟩) (by assumption) ?_
  (try simp only [Act.put, List.getElem_toArray, List.getElem_cons_succ, List.getElem_cons_zero, List.setIfInBounds_toArray, List.set_cons_zero, List.set_cons_succ])
  refine wpAnyH_take (i := 4) (v := .int .i64 lo) rfl (by kernel_rfl) (by kernel_rfl) (by kernel_rfl) (fun _ _ _ h => h) (Or.inl ⟨by rfl, fun W hW => (by obtain ⟨ca0, cc0, cc1, cc2, cc3, cc4⟩ := epoch_cells HB.out hW; go_simp)⟩) (by assumption) ?_
  (try simp only [Act.put, List.getElem_toArray, List.getElem_cons_succ, List.getElem_cons_zero, List.setIfInBounds_toArray, List.set_cons_zero, List.set_cons_succ])
  refine wpAnyH_take (i := 5) (v := .pointer (some ⟨G, 17, none⟩)) rfl (by kernel_rfl) (by kernel_rfl) (by kernel_rfl) (fun _ _ _ h => h) (Or.inl ⟨by rfl, fun W hW => by go_simp⟩) (by assumption) ?_
  (try simp only [Act.put, List.getElem_toArray, List.getElem_cons_succ, List.getElem_cons_zero, List.setIfInBounds_toArray, List.set_cons_zero, List.set_cons_succ])
  refine wpAnyH_take (i := 6) (v := .pointer (some ⟨G, 18, none⟩)) rfl (by kernel_rfl) (by kernel_rfl) (by kernel_rfl) (fun _ _ _ h => h) (Or.inl ⟨by rfl, fun W hW => by go_simp⟩) (by assumption) ?_
  (try simp only [Act.put, List.getElem_toArray, List.getElem_cons_succ, List.getElem_cons_zero, List.setIfInBounds_toArray, List.set_cons_zero, List.set_cons_succ])
  refine wpAnyH_take (i := 7) (v := .int .i64 hi) rfl (by kernel_rfl) (by kernel_rfl) (by kernel_rfl) (fun _ _ _ h => h) (Or.inl ⟨by rfl, fun W hW => (by obtain ⟨ca0, cc0, cc1, cc2, cc3, cc4⟩ := epoch_cells HB.out hW; go_simp)⟩) (by assumption) ?_
  (try simp only [Act.put, List.getElem_toArray, List.getElem_cons_succ, List.getElem_cons_zero, List.setIfInBounds_toArray, List.set_cons_zero, List.set_cons_succ])
  refine wpAnyH_take (i := 8) (v := .pointer (some ⟨G, 21, none⟩)) rfl (by kernel_rfl) (by kernel_rfl) (by kernel_rfl) (fun _ _ _ h => h) (Or.inl ⟨by rfl, fun W hW => by go_simp⟩) (by assumption) ?_
  (try simp only [Act.put, List.getElem_toArray, List.getElem_cons_succ, List.getElem_cons_zero, List.setIfInBounds_toArray, List.set_cons_zero, List.set_cons_succ])
  refine wpAnyH_take (i := 9) (v := .int .i64 se) rfl (by kernel_rfl) (by kernel_rfl) (by kernel_rfl) (fun _ _ _ h => h) (Or.inl ⟨by rfl, fun W hW => (by obtain ⟨ca0, cc0, cc1, cc2, cc3, cc4⟩ := epoch_cells HB.out hW; go_simp)⟩) (by assumption) ?_
  (try simp only [Act.put, List.getElem_toArray, List.getElem_cons_succ, List.getElem_cons_zero, List.setIfInBounds_toArray, List.set_cons_zero, List.set_cons_succ])
  refine wpAnyH_take (i := 10) (v := .pointer (some ⟨G, 19, none⟩)) rfl (by kernel_rfl) (by kernel_rfl) (by kernel_rfl) (fun _ _ _ h => h) (Or.inl ⟨by rfl, fun W hW => by go_simp⟩) (by assumption) ?_
  (try simp only [Act.put, List.getElem_toArray, List.getElem_cons_succ, List.getElem_cons_zero, List.setIfInBounds_toArray, List.set_cons_zero, List.set_cons_succ])
  refine wpAnyH_take (i := 11) (v := .slice pa N pc) rfl (by kernel_rfl) (by kernel_rfl) (by kernel_rfl) (fun _ _ _ h => h) (Or.inl ⟨by rfl, fun W hW => (by obtain ⟨ca0, cc0, cc1, cc2, cc3, cc4⟩ := epoch_cells HB.out hW; go_simp)⟩) (by assumption) ?_
  (try simp only [Act.put, List.getElem_toArray, List.getElem_cons_succ, List.getElem_cons_zero, List.setIfInBounds_toArray, List.set_cons_zero, List.set_cons_succ])
  refine wpAnyH_take (i := 12) (v := .int .i64 (N : Int)) rfl (by kernel_rfl) (by kernel_rfl) (by kernel_rfl) (fun _ _ _ h => h) (Or.inl ⟨by rfl, fun W hW => by go_simp⟩) (by assumption) ?_
  (try simp only [Act.put, List.getElem_toArray, List.getElem_cons_succ, List.getElem_cons_zero, List.setIfInBounds_toArray, List.set_cons_zero, List.set_cons_succ])
  refine wpAnyH_take (i := 15) (v := .pointer (some ⟨G, 1, none⟩)) rfl (by kernel_rfl) (by kernel_rfl) (by kernel_rfl) (fun _ _ _ h => h) (Or.inl ⟨by rfl, fun W hW => by go_simp⟩) (by assumption) ?_
  (try simp only [Act.put, List.getElem_toArray, List.getElem_cons_succ, List.getElem_cons_zero, List.setIfInBounds_toArray, List.set_cons_zero, List.set_cons_succ])
  refine wpAnyH_take (i := 16) (v := .agg (B.map Hs.bv).toArray) rfl (by kernel_rfl) (by kernel_rfl) (by kernel_rfl) (fun _ _ _ h => h) (Or.inl ⟨by rfl, fun W hW => exec_load_mid 56 _ rfl G 1 rfl (B.map Hs.bv) _ (rec_B hW) Tryd.underlying56 rfl DI.out⟩) (by assumption) ?_
  (try simp only [Act.put, List.getElem_toArray, List.getElem_cons_succ, List.getElem_cons_zero, List.setIfInBounds_toArray, List.set_cons_zero, List.set_cons_succ])
  refine wpAnyH_ready (rs := [13]) (by kernel_rfl) (by simp) (AllReadyH.cons rfl (fun K hK => ?_) AllReadyH.nil)
  go_simp
  obtain ⟨g1, hg1⟩ : ∃ G, w1.heap.size = G := ⟨_, rfl⟩
  have Kg1 := Lib.hid (show Blk (w1.alloc (.cells #[.int .i64 nu, .int .i64 lo, .int .i64 hi, .int .i64 se, .int .i64 (N : Int)] 3)) g1 3 #[.int .i64 nu, .int .i64 lo, .int .i64 hi, .int .i64 se, .int .i64 (N : Int)] from Blk.new' w1 _ _ _ hg1 rfl)
  have hb := (Below.refl _ w1).alloc (Nat.le_refl _) (.cells #[.int .i64 nu, .int .i64 lo, .int .i64 hi, .int .i64 se, .int .i64 (N : Int)] 3)
  replace B0 := Lib.hid (B0.out.trans (hb.mono B0.out.size))
  rw [hg1]
  refine hK _ _ (hHeld.below hb hHeld.lt) (fun heldwa1 => ?_)
  clear hK K hHeld
  (try simp only [Act.put, List.getElem_toArray, List.getElem_cons_succ, List.getElem_cons_zero, List.setIfInBounds_toArray, List.set_cons_zero, List.set_cons_succ])
  clear hb
  generalize hw2 : w1.alloc (.cells #[.int .i64 nu, .int .i64 lo, .int .i64 hi, .int .i64 se, .int .i64 (N : Int)] 3) = wa1 at Kg1 B0 heldwa1 ⊢
  clear hw2 hg1
  refine wpAnyH_ready (rs := [14]) (by kernel_rfl) (by simp) (AllReadyH.cons rfl (fun K hK => ?_) AllReadyH.nil)
  go_simp
  refine (NU.out g1 _ Kg1.out).mono ?_
  rintro e9 wa3 ⟨rfl, hb⟩
  replace B0 := Lib.hid (B0.out.trans (hb.mono B0.out.size))
  go_wp2_with fail
  refine hK _ _ (heldwa1.below hb heldwa1.lt) (fun heldwa3 => ?_)
  clear hK K heldwa1
  (try simp only [Act.put, List.getElem_toArray, List.getElem_cons_succ, List.getElem_cons_zero, List.setIfInBounds_toArray, List.set_cons_zero, List.set_cons_succ])
  clear hb
  clear Kg1
  refine wpAnyH_ready (rs := [17]) (by kernel_rfl) (by simp) (AllReadyH.cons rfl (fun K hK => ?_) AllReadyH.nil)
  go_simp
  refine (DGT.out _).mono ?_
  rintro e9 wa5 ⟨rfl, hb⟩
  replace B0 := Lib.hid (B0.out.trans (hb.mono B0.out.size))
  go_wp2_with fail
  refine hK _ _ (heldwa3.below hb heldwa3.lt) (fun heldwa5 => ?_)
  clear hK K heldwa3
  (try simp only [Act.put, List.getElem_toArray, List.getElem_cons_succ, List.getElem_cons_zero, List.setIfInBounds_toArray, List.set_cons_zero, List.set_cons_succ])
  clear hb
  have LZ := Lib.hid (show w0.heap.size ≤ wa5.heap.size from B0.out.size)
  refine wpAnyH_ready (rs := [18]) (by kernel_rfl) (by simp) (AllReadyH.cons rfl (fun K hK => ?_) AllReadyH.nil)
  go_simp
  obtain ⟨g2, hg2⟩ : ∃ G, wa5.heap.size = G := ⟨_, rfl⟩
  have Kg2 := Lib.hid (show Blk (wa5.alloc (.cells #[.string P, .string Q] 9)) g2 9 #[.string P, .string Q] from Blk.new' wa5 _ _ _ hg2 rfl)
  have hb := (Below.refl _ wa5).alloc (Nat.le_refl _) (.cells #[.string P, .string Q] 9)
  replace B0 := Lib.hid (B0.out.trans (hb.mono B0.out.size))
  rw [hg2]
  refine hK _ _ (heldwa5.below hb heldwa5.lt) (fun heldwa7 => ?_)
  clear hK K heldwa5
  (try simp only [Act.put, List.getElem_toArray, List.getElem_cons_succ, List.getElem_cons_zero, List.setIfInBounds_toArray, List.set_cons_zero, List.set_cons_succ])
  clear hb
  generalize hw2 : wa5.alloc (.cells #[.string P, .string Q] 9) = wa7 at Kg2 B0 heldwa7 ⊢
  have LZ2 := Lib.hid (show w0.heap.size ≤ g2 from by have := LZ.out; omega)
  clear hw2 hg2 LZ
  refine wpAnyH_take (i := 19) (v := .slice (some ⟨g2, 0, none⟩) 2 2) rfl (by kernel_rfl) (by kernel_rfl) (by kernel_rfl) (fun _ _ _ h => h) (Or.inl ⟨by rfl, fun W hW => by go_simp⟩) (by assumption) ?_
  (try simp only [Act.put, List.getElem_toArray, List.getElem_cons_succ, List.getElem_cons_zero, List.setIfInBounds_toArray, List.set_cons_zero, List.set_cons_succ])
  refine wpAnyH_done (by kernel_rfl) ?_ _
  obtain ⟨ca0, cc0, cc1, cc2, cc3, cc4⟩ := epoch_cells HB.out heldwa7
  have Kx := Lib.hid heldwa7
  go_wp2
  go_loopw [3, 4] (fun u3 u4 wr => ∃ k : Nat, k ≤ N ∧ u4 = .int .i64 k ∧ Hid (OwnS wr w0.heap.size u3 ([P, Q] ++ (pl.take k).flatMap puP)) ∧ Hid (Blk wr G 62 (recC [.int .i64 nu] B [.int .i64 lo, .int .i64 hi, .slice pa N pc, .slice ra M rc, .int .i64 se] S)) ∧ Hid (Below w0.heap.size w0 wr)) (fun _ u4 _ => (N - intOf u4).toNat)
  case atStart => exact ⟨0, by omega, rfl, Lib.hid (own_two Kg2.out LZ2.out), Kx, B0⟩
  case round =>
    clear Kx B0 Kg2 LZ2 ca0 cc0 cc1 cc2 cc3 cc4 heldwa7
    obtain ⟨k, hk, rfl, HO, Kx, B0⟩ := hrel
    have n1 := N1.out
    by_cases hlt : k < N
    · have t0 : decide ((k : Int) < (N : Int)) = true := decide_eq_true (by omega)
      have wk : IntKind.i64.wrap ((k : Int) + 1) = (k : Int) + 1 := by rw [IntKind.wrap_i64]; omega
      obtain ⟨bp, fp, rfl, -, -, -⟩ := pu_at (HM.out.mono (BW.out.trans (B0.out.mono BW.out.size))).1 (k := k) (by rw [HN.out]; exact hlt)
      have hok := (HOK.out.2.2 (pl.getD k pu0) (by rw [List.getD_eq_getElem?_getD, List.getElem?_eq_getElem (by rw [HN.out]; exact hlt)]; exact List.getElem_mem _)).1
      have NX := Lib.hid (show [P, Q] ++ (pl.take (k + 1)).flatMap puP = ([P, Q] ++ (pl.take k).flatMap puP) ++ puP (pl.getD k pu0) by rw [take_step puP pl pu0 k (by rw [HN.out]; exact hlt), List.append_assoc])
      have LN := Lib.hid (show ([P, Q] ++ (pl.take k).flatMap puP).length ≤ 1000000 by rw [List.length_append, puP_len, List.length_take]; simp; omega)
      have PQ := Lib.hid (fun (W : World) (h : Below w0.heap.size w0 W) => pu_at (HM.out.mono (BW.out.trans (h.mono BW.out.size))).1 (k := k) (by rw [HN.out]; exact hlt))
      obtain ⟨x, hx⟩ : ∃ y, pl.getD k pu0 = y := ⟨_, rfl⟩
      rw [hx] at hok
      simp only [hx] at NX PQ
      clear hx
      obtain ⟨x1, x2, x3⟩ := x
      simp only at hok
      simp only at PQ
      have k0 : (0 : Int) ≤ (k : Int) := by omega
      have kN : (k : Int) < (N : Int) := by omega
      have HOK1 := Lib.hid hok
      clear hok
      obtain ⟨U, hU⟩ : ∃ u : Int, (if x3 = true then (1 : Int) else 0) = u := ⟨_, rfl⟩
      have UOK := Lib.hid (show i64Ok U by rw [← hU]; unfold i64Ok; split <;> omega)
      have ON1 := Lib.hid (fun X => ONE.out x3 X)
      simp only [hU] at ON1
      obtain ⟨Y, hY⟩ : ∃ Y, numP [x1, U] = Y := ⟨_, rfl⟩
      have HY := Lib.hid (show puP (x1, x2, x3) = [Y, x2] by rw [← hY, ← hU]; rfl)
      have NU3 := Lib.hid (fun g X h => NU2.out x1 U ⟨HOK1.out, UOK.out⟩ g X h)
      simp only [hY] at NU3
      clear hU hY
      obtain ⟨ca0, cc0, cc1, cc2, cc3, cc4⟩ := epoch_cells HB.out Kx.out
      go_upto_region 5 with (fail)
      clear ca0 cc0 cc1 cc2 cc3 cc4
      refine wp_region_held_drew (S := fun W => Blk W G 62 (recC [.int .i64 nu] B [.int .i64 lo, .int .i64 hi, .slice (some ⟨bp, fp, none⟩) N pc, .slice ra M rc, .int .i64 se] S) ∧ Below w0.heap.size w0 W) (by kernel_rfl) ⟨Kx.out.drew, B0.out.drew⟩ (fun hHeld => ?_)
      clear Kx
      replace HO := Lib.hid HO.out.drew
      replace B0 := Lib.hid B0.out.drew
      generalize wr.drew = w2 at HO B0 hHeld ⊢
      refine wpAnyH_take (i := 0) (v := u3) rfl (by kernel_rfl) (by kernel_rfl) (by kernel_rfl) (fun _ _ _ h => h) (Or.inl ⟨by rfl, fun W hW => by go_simp⟩) (by assumption) ?_
      (try simp only [Act.put, List.getElem_toArray, List.getElem_cons_succ, List.getElem_cons_zero, List.setIfInBounds_toArray, List.set_cons_zero, List.set_cons_succ])
      refine wpAnyH_take (i := 1) (v := .pointer (some ⟨G, 19, none⟩)) rfl (by kernel_rfl) (by kernel_rfl) (by kernel_rfl) (fun _ _ _ h => h) (Or.inl ⟨by rfl, fun W hW => by go_simp⟩) (by assumption) ?_
      (try simp only [Act.put, List.getElem_toArray, List.getElem_cons_succ, List.getElem_cons_zero, List.setIfInBounds_toArray, List.set_cons_zero, List.set_cons_succ])
      refine wpAnyH_take (i := 2) (v := .slice (some ⟨bp, fp, none⟩) N pc) rfl (by kernel_rfl) (by kernel_rfl) (by kernel_rfl) (fun _ _ _ h => h) (Or.inl ⟨by rfl, fun W hW => (by obtain ⟨ca0, cc0, cc1, cc2, cc3, cc4⟩ := epoch_cells HB.out hW.1; go_simp)⟩) (by assumption) ?_
      (try simp only [Act.put, List.getElem_toArray, List.getElem_cons_succ, List.getElem_cons_zero, List.setIfInBounds_toArray, List.set_cons_zero, List.set_cons_succ])
      refine wpAnyH_take (i := 3) (v := .int .i64 (k : Int)) rfl (by kernel_rfl) (by kernel_rfl) (by kernel_rfl) (fun _ _ _ h => h) (Or.inl ⟨by rfl, fun W hW => by go_simp⟩) (by assumption) ?_
      (try simp only [Act.put, List.getElem_toArray, List.getElem_cons_succ, List.getElem_cons_zero, List.setIfInBounds_toArray, List.set_cons_zero, List.set_cons_succ])
      refine wpAnyH_take (i := 4) (v := .pointer (some ⟨bp, fp + k * 3, none⟩)) rfl (by kernel_rfl) (by kernel_rfl) (by kernel_rfl) (fun _ _ _ h => h) (Or.inl ⟨by rfl, fun W hW => by go_simp⟩) (by assumption) ?_
      (try simp only [Act.put, List.getElem_toArray, List.getElem_cons_succ, List.getElem_cons_zero, List.setIfInBounds_toArray, List.set_cons_zero, List.set_cons_succ])
      refine wpAnyH_take (i := 5) (v := .pointer (some ⟨bp, fp + k * 3, none⟩)) rfl (by kernel_rfl) (by kernel_rfl) (by kernel_rfl) (fun _ _ _ h => h) (Or.inl ⟨by rfl, fun W hW => by go_simp⟩) (by assumption) ?_
      (try simp only [Act.put, List.getElem_toArray, List.getElem_cons_succ, List.getElem_cons_zero, List.setIfInBounds_toArray, List.set_cons_zero, List.set_cons_succ])
      refine wpAnyH_take (i := 6) (v := .int .i64 x1) rfl (by kernel_rfl) (by kernel_rfl) (by kernel_rfl) (fun _ _ _ h => h) (Or.inl ⟨by rfl, fun W hW => (by obtain ⟨b5, f5, e5, m0, m1, m2⟩ := PQ.out W hW.2; injection e5 with e5; injection e5 with e6 e7 _; subst e6; subst e7; go_simp)⟩) (by assumption) ?_
      (try simp only [Act.put, List.getElem_toArray, List.getElem_cons_succ, List.getElem_cons_zero, List.setIfInBounds_toArray, List.set_cons_zero, List.set_cons_succ])
      refine wpAnyH_take (i := 7) (v := .pointer (some ⟨G, 19, none⟩)) rfl (by kernel_rfl) (by kernel_rfl) (by kernel_rfl) (fun _ _ _ h => h) (Or.inl ⟨by rfl, fun W hW => by go_simp⟩) (by assumption) ?_
      (try simp only [Act.put, List.getElem_toArray, List.getElem_cons_succ, List.getElem_cons_zero, List.setIfInBounds_toArray, List.set_cons_zero, List.set_cons_succ])
      refine wpAnyH_take (i := 8) (v := .slice (some ⟨bp, fp, none⟩) N pc) rfl (by kernel_rfl) (by kernel_rfl) (by kernel_rfl) (fun _ _ _ h => h) (Or.inl ⟨by rfl, fun W hW => (by obtain ⟨ca0, cc0, cc1, cc2, cc3, cc4⟩ := epoch_cells HB.out hW.1; go_simp)⟩) (by assumption) ?_
      (try simp only [Act.put, List.getElem_toArray, List.getElem_cons_succ, List.getElem_cons_zero, List.setIfInBounds_toArray, List.set_cons_zero, List.set_cons_succ])
      refine wpAnyH_take (i := 9) (v := .int .i64 (k : Int)) rfl (by kernel_rfl) (by kernel_rfl) (by kernel_rfl) (fun _ _ _ h => h) (Or.inl ⟨by rfl, fun W hW => by go_simp⟩) (by assumption) ?_
      (try simp only [Act.put, List.getElem_toArray, List.getElem_cons_succ, List.getElem_cons_zero, List.setIfInBounds_toArray, List.set_cons_zero, List.set_cons_succ])
      refine wpAnyH_take (i := 10) (v := .pointer (some ⟨bp, fp + k * 3, none⟩)) rfl (by kernel_rfl) (by kernel_rfl) (by kernel_rfl) (fun _ _ _ h => h) (Or.inl ⟨by rfl, fun W hW => by go_simp⟩) (by assumption) ?_
      (try simp only [Act.put, List.getElem_toArray, List.getElem_cons_succ, List.getElem_cons_zero, List.setIfInBounds_toArray, List.set_cons_zero, List.set_cons_succ])
      refine wpAnyH_take (i := 11) (v := .pointer (some ⟨bp, fp + k * 3 + 2, none⟩)) rfl (by kernel_rfl) (by kernel_rfl) (by kernel_rfl) (fun _ _ _ h => h) (Or.inl ⟨by rfl, fun W hW => by go_simp⟩) (by assumption) ?_
      (try simp only [Act.put, List.getElem_toArray, List.getElem_cons_succ, List.getElem_cons_zero, List.setIfInBounds_toArray, List.set_cons_zero, List.set_cons_succ])
      refine wpAnyH_take (i := 12) (v := .bool x3) rfl (by kernel_rfl) (by kernel_rfl) (by kernel_rfl) (fun _ _ _ h => h) (Or.inl ⟨by rfl, fun W hW => (by obtain ⟨b5, f5, e5, m0, m1, m2⟩ := PQ.out W hW.2; injection e5 with e5; injection e5 with e6 e7 _; subst e6; subst e7; go_simp)⟩) (by assumption) ?_
      (try simp only [Act.put, List.getElem_toArray, List.getElem_cons_succ, List.getElem_cons_zero, List.setIfInBounds_toArray, List.set_cons_zero, List.set_cons_succ])
      refine wpAnyH_take (i := 16) (v := .pointer (some ⟨G, 19, none⟩)) rfl (by kernel_rfl) (by kernel_rfl) (by kernel_rfl) (fun _ _ _ h => h) (Or.inl ⟨by rfl, fun W hW => by go_simp⟩) (by assumption) ?_
      (try simp only [Act.put, List.getElem_toArray, List.getElem_cons_succ, List.getElem_cons_zero, List.setIfInBounds_toArray, List.set_cons_zero, List.set_cons_succ])
      refine wpAnyH_take (i := 17) (v := .slice (some ⟨bp, fp, none⟩) N pc) rfl (by kernel_rfl) (by kernel_rfl) (by kernel_rfl) (fun _ _ _ h => h) (Or.inl ⟨by rfl, fun W hW => (by obtain ⟨ca0, cc0, cc1, cc2, cc3, cc4⟩ := epoch_cells HB.out hW.1; go_simp)⟩) (by assumption) ?_
      (try simp only [Act.put, List.getElem_toArray, List.getElem_cons_succ, List.getElem_cons_zero, List.setIfInBounds_toArray, List.set_cons_zero, List.set_cons_succ])
      refine wpAnyH_take (i := 18) (v := .int .i64 (k : Int)) rfl (by kernel_rfl) (by kernel_rfl) (by kernel_rfl) (fun _ _ _ h => h) (Or.inl ⟨by rfl, fun W hW => by go_simp⟩) (by assumption) ?_
      (try simp only [Act.put, List.getElem_toArray, List.getElem_cons_succ, List.getElem_cons_zero, List.setIfInBounds_toArray, List.set_cons_zero, List.set_cons_succ])
      refine wpAnyH_take (i := 19) (v := .pointer (some ⟨bp, fp + k * 3, none⟩)) rfl (by kernel_rfl) (by kernel_rfl) (by kernel_rfl) (fun _ _ _ h => h) (Or.inl ⟨by rfl, fun W hW => by go_simp⟩) (by assumption) ?_
      (try simp only [Act.put, List.getElem_toArray, List.getElem_cons_succ, List.getElem_cons_zero, List.setIfInBounds_toArray, List.set_cons_zero, List.set_cons_succ])
      refine wpAnyH_take (i := 20) (v := .pointer (some ⟨bp, fp + k * 3 + 1, none⟩)) rfl (by kernel_rfl) (by kernel_rfl) (by kernel_rfl) (fun _ _ _ h => h) (Or.inl ⟨by rfl, fun W hW => by go_simp⟩) (by assumption) ?_
      (try simp only [Act.put, List.getElem_toArray, List.getElem_cons_succ, List.getElem_cons_zero, List.setIfInBounds_toArray, List.set_cons_zero, List.set_cons_succ])
      refine wpAnyH_take (i := 21) (v := .string x2) rfl (by kernel_rfl) (by kernel_rfl) (by kernel_rfl) (fun _ _ _ h => h) (Or.inl ⟨by rfl, fun W hW => (by obtain ⟨b5, f5, e5, m0, m1, m2⟩ := PQ.out W hW.2; injection e5 with e5; injection e5 with e6 e7 _; subst e6; subst e7; go_simp)⟩) (by assumption) ?_
      (try simp only [Act.put, List.getElem_toArray, List.getElem_cons_succ, List.getElem_cons_zero, List.setIfInBounds_toArray, List.set_cons_zero, List.set_cons_succ])
      refine wpAnyH_ready (rs := [13]) (by kernel_rfl) (by simp) (AllReadyH.cons rfl (fun K hK => ?_) AllReadyH.nil)
      go_simp
      refine (ON1.out _).mono ?_
      rintro e9 w2b ⟨rfl, rfl⟩
      go_wp2_with fail
      refine hK _ _ hHeld (fun heldwb0 => ?_)
      clear hK K hHeld
      (try simp only [Act.put, List.getElem_toArray, List.getElem_cons_succ, List.getElem_cons_zero, List.setIfInBounds_toArray, List.set_cons_zero, List.set_cons_succ])
      refine wpAnyH_ready (rs := [14]) (by kernel_rfl) (by simp) (AllReadyH.cons rfl (fun K hK => ?_) AllReadyH.nil)
      go_simp
      obtain ⟨g7, hg7⟩ : ∃ G, w2.heap.size = G := ⟨_, rfl⟩
      have Kg7 := Lib.hid (show Blk (w2.alloc (.cells #[.int .i64 x1, .int .i64 U] 3)) g7 3 #[.int .i64 x1, .int .i64 U] from Blk.new' w2 _ _ _ hg7 rfl)
      have hb := (Below.refl _ w2).alloc (Nat.le_refl _) (.cells #[.int .i64 x1, .int .i64 U] 3)
      replace B0 := Lib.hid (B0.out.trans (hb.mono B0.out.size))
      rw [hg7]
      replace HO := Lib.hid (HO.out.below hb)
      refine hK _ _ ⟨heldwb0.1.below hb heldwb0.1.lt, B0.out⟩ (fun heldwb2 => ?_)
      clear hK K heldwb0
      (try simp only [Act.put, List.getElem_toArray, List.getElem_cons_succ, List.getElem_cons_zero, List.setIfInBounds_toArray, List.set_cons_zero, List.set_cons_succ])
      clear hb
      generalize hw2 : w2.alloc (.cells #[.int .i64 x1, .int .i64 U] 3) = wb2 at Kg7 B0 HO heldwb2 ⊢
      clear hw2 hg7
      refine wpAnyH_ready (rs := [15]) (by kernel_rfl) (by simp) (AllReadyH.cons rfl (fun K hK => ?_) AllReadyH.nil)
      go_simp
      refine (NU3.out g7 _ Kg7.out).mono ?_
      rintro e9 wb4 ⟨rfl, hb⟩
      replace B0 := Lib.hid (B0.out.trans (hb.mono B0.out.size))
      replace HO := Lib.hid (HO.out.below hb)
      go_wp2_with fail
      refine hK _ _ ⟨heldwb2.1.below hb heldwb2.1.lt, B0.out⟩ (fun heldwb4 => ?_)
      clear hK K heldwb2
      (try simp only [Act.put, List.getElem_toArray, List.getElem_cons_succ, List.getElem_cons_zero, List.setIfInBounds_toArray, List.set_cons_zero, List.set_cons_succ])
      clear hb
      clear Kg7
      refine wpAnyH_ready (rs := [22]) (by kernel_rfl) (by simp) (AllReadyH.cons rfl (fun K hK => ?_) AllReadyH.nil)
      go_simp
      obtain ⟨g9, hg9⟩ : ∃ G, wb4.heap.size = G := ⟨_, rfl⟩
      have Kg9 := Lib.hid (show Blk (wb4.alloc (.cells #[.string Y, .string x2] 9)) g9 9 #[.string Y, .string x2] from Blk.new' wb4 _ _ _ hg9 rfl)
      have hb := (Below.refl _ wb4).alloc (Nat.le_refl _) (.cells #[.string Y, .string x2] 9)
      replace B0 := Lib.hid (B0.out.trans (hb.mono B0.out.size))
      rw [hg9]
      replace HO := Lib.hid (HO.out.below hb)
      refine hK _ _ ⟨heldwb4.1.below hb heldwb4.1.lt, B0.out⟩ (fun heldwb6 => ?_)
      clear hK K heldwb4
      (try simp only [Act.put, List.getElem_toArray, List.getElem_cons_succ, List.getElem_cons_zero, List.setIfInBounds_toArray, List.set_cons_zero, List.set_cons_succ])
      clear hb
      generalize hw2 : wb4.alloc (.cells #[.string Y, .string x2] 9) = wb6 at Kg9 B0 HO heldwb6 ⊢
      clear hw2 hg9
      obtain ⟨b1, n1_, c1, w8, hr, ho, hba, -⟩ := app_SK 48 wb6 w0.heap.size u3 ([P, Q] ++ (pl.take k).flatMap puP) HO.out (some ⟨g9, 0, none⟩) 2 [Y, x2] (strs_blk (l := [Y, x2]) Kg9.out) (by have := LN.out; omega) (by simp) B0.out.size
      have HR1 := Lib.hid hr
      have HO2 := Lib.hid ho
      have HBA := Lib.hid hba
      clear hr ho hba
      replace B0 := Lib.hid (B0.out.trans HBA.out)
      refine wpAnyH_ready (rs := [23]) (by kernel_rfl) (by simp) (AllReadyH.cons rfl (fun K hK => ?_) AllReadyH.nil)
      refine step_app_run rfl (.tmp 32) (.tmp 54) 48 rfl u3 (.slice (some ⟨g9, 0, none⟩) 2 2) (.slice b1 n1_ c1) w8 rfl rfl HR1.out ?_
      refine hK _ _ ⟨heldwb6.1.below HBA.out GZ.out, B0.out⟩ (fun heldwb7 => ?_)
      clear hK K heldwb6
      (try simp only [Act.put, List.getElem_toArray, List.getElem_cons_succ, List.getElem_cons_zero, List.setIfInBounds_toArray, List.set_cons_zero, List.set_cons_succ])
      refine wpAnyH_take (i := 24) (v := .slice b1 n1_ c1) rfl (by kernel_rfl) (by kernel_rfl) (by kernel_rfl) (fun _ _ _ h => h) (Or.inl ⟨by rfl, fun W hW => by go_simp⟩) (by assumption) ?_
      (try simp only [Act.put, List.getElem_toArray, List.getElem_cons_succ, List.getElem_cons_zero, List.setIfInBounds_toArray, List.set_cons_zero, List.set_cons_succ])
      refine wpAnyH_done (by kernel_rfl) ?_ _
      have Kx := Lib.hid heldwb7.1
      have HO3 := Lib.hid (show OwnS w8 w0.heap.size (.slice b1 n1_ c1) ([P, Q] ++ (pl.take (k + 1)).flatMap puP) by rw [NX.out, HY.out]; exact HO2.out)
      go_wp2
      go_roundw
      case rel => exact ⟨k + 1, by omega, by go_num, HO3, Kx, B0⟩
      case measure => simp [intOf]; omega
    · have hkN : N = k := by omega
      subst hkN
      clear hlt hk
      have HO1 := Lib.hid (show OwnS wr w0.heap.size u3 ([P, Q] ++ pl.flatMap puP) by have h := HO.out; rw [← HN.out, List.take_length] at h; exact h)
      clear HO
      obtain ⟨ca0, cc0, cc1, cc2, cc3, cc4⟩ := epoch_cells HB.out Kx.out
      have HL1 := Lib.hid (show ([P, Q] ++ pl.flatMap puP).length ≤ 1000 by rw [List.length_append, puP_len, HN.out]; have := N1.out; simp; omega)
      go_wp2
      go_loopw [3, 5] (fun u3 u5 wr => ∃ k : Nat, k ≤ M ∧ u5 = .int .i64 k ∧ Hid (OwnS wr w0.heap.size u3 (([P, Q] ++ pl.flatMap puP) ++ (rl.take k).map dgP)) ∧ Hid (Blk wr G 62 (recC [.int .i64 nu] B [.int .i64 lo, .int .i64 hi, .slice pa N pc, .slice ra M rc, .int .i64 se] S)) ∧ Hid (Below w0.heap.size w0 wr)) (fun _ u5 _ => (M - intOf u5).toNat)
      case atStart => exact ⟨0, by omega, rfl, Lib.hid (by simpa using HO1.out), Kx, B0⟩
      case round =>
        clear Kx B0 HO1 ca0 cc0 cc1 cc2 cc3 cc4
        obtain ⟨k, hk, rfl, HO, Kx, B0⟩ := hrel
        have n2 := N2.out
        obtain ⟨ca0, cc0, cc1, cc2, cc3, cc4⟩ := epoch_cells HB.out Kx.out
        by_cases hlt : k < M
        · have t0 : decide ((k : Int) < (M : Int)) = true := decide_eq_true (by omega)
          have wk : IntKind.i64.wrap ((k : Int) + 1) = (k : Int) + 1 := by rw [IntKind.wrap_i64]; omega
          obtain ⟨bq, fq, rfl, RQ⟩ := dg_at (HM.out.mono (BW.out.trans (B0.out.mono BW.out.size))).2 (k := k) (by rw [HMl.out]; exact hlt)
          have NX := Lib.hid (show ([P, Q] ++ pl.flatMap puP) ++ (rl.take (k + 1)).map dgP = (([P, Q] ++ pl.flatMap puP) ++ (rl.take k).map dgP) ++ [dgP (rl.getD k dg0)] by rw [take_stepm dgP rl dg0 k (by rw [HMl.out]; exact hlt)]; simp only [List.append_assoc])
          have LN := Lib.hid (show (([P, Q] ++ pl.flatMap puP) ++ (rl.take k).map dgP).length ≤ 1000000 by rw [List.length_append, List.length_map, List.length_take]; have := HL1.out; omega)
          obtain ⟨x, hx⟩ : ∃ y, rl.getD k dg0 = y := ⟨_, rfl⟩
          rw [hx] at RQ
          simp only [hx] at NX
          clear hx
          have HRQ := Lib.hid RQ
          clear RQ
          have SI := Lib.hid (show (Tryd.prog.info? 56).map (·.size) = some (x.1.map Hs.bv).length by rw [List.length_map, x.2.1]; kernel_rfl)
          have DG1 := Lib.hid (fun X => DGX.out x X)
          obtain ⟨Y, hY⟩ : ∃ Y, dgP x = Y := ⟨_, rfl⟩
          simp only [hY] at DG1 NX
          clear hY
          have k0 : (0 : Int) ≤ (k : Int) := by omega
          have kN : (k : Int) < (M : Int) := by omega
          go_wp2_with (with_reducible refine wpList_load_mid rfl 56 _ rfl bq (fq + k * 16) rfl (x.1.map Hs.bv) _ HRQ.out Tryd.underlying56 rfl SI.out ?_)
          refine (DG1.out _).mono ?_
          rintro e9 w1 ⟨rfl, hb⟩
          replace HO := Lib.hid (HO.out.below hb)
          replace Kx := Lib.hid (Kx.out.below hb Kx.out.lt)
          replace B0 := Lib.hid (B0.out.trans (hb.mono B0.out.size))
          clear hb ca0 cc0 cc1 cc2 cc3 cc4
          obtain ⟨b1, n1_, c1, w8, hr, ho, hba, -⟩ := app_SK 48 (w1.alloc (.cells #[.string Y] 9)) w0.heap.size u3 (([P, Q] ++ pl.flatMap puP) ++ (rl.take k).map dgP) (HO.out.alloc _) (some ⟨w1.heap.size, 0, none⟩) 1 [Y] (rows_one (enc := encT) (e := 9) w1 Y) (by have := LN.out; omega) (by simp) (by rw [World.size_alloc]; have := B0.out.size; omega)
          have HR1 := Lib.hid hr
          have HO2 := Lib.hid ho
          have HBA := Lib.hid (show Below w0.heap.size w1 w8 from ((Below.refl _ w1).alloc B0.out.size _).trans hba)
          clear hr ho hba
          go_wp2_with (at_builtin; refine wpList_app_run rfl _ _ 48 48 rfl _ _ _ w8 rfl rfl HR1.out ?_)
          replace Kx := Lib.hid (Kx.out.below HBA.out GZ.out)
          replace B0 := Lib.hid (B0.out.trans HBA.out)
          have HO3 := Lib.hid (show OwnS w8 w0.heap.size (.slice b1 n1_ c1) (([P, Q] ++ pl.flatMap puP) ++ (rl.take (k + 1)).map dgP) by rw [NX.out]; exact HO2.out)
          go_roundw
          case rel => exact ⟨k + 1, by omega, by go_num, HO3, Kx, B0⟩
          case measure => simp [intOf]; omega
        · have hkN : M = k := by omega
          subst hkN
          clear hlt hk
          have HO1 := Lib.hid (show OwnS wr w0.heap.size u3 (([P, Q] ++ pl.flatMap puP) ++ rl.map dgP) by have h := HO.out; rw [← HMl.out, List.take_length] at h; exact h)
          clear HO
          obtain ⟨a9, c9, rfl, -, h9⟩ := OwnR.view encT_len HO1.out
          have H9 := Lib.hid h9
          clear h9 HO1
          go_wp2
          go_ret
          exact ⟨⟨_, _, rfl, H9.out⟩, BW.out.trans (B0.out.mono BW.out.size)⟩
end
end Go.Proofs.YtcdcnklfcmoiiaaDoor
