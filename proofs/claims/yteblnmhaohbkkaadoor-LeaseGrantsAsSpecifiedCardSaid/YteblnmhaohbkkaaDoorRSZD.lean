/- Short, Make and Check of the reference (SH, RM, RC in one text) -/
import Derived.Test.YteblnmhaohbkkaaDoorRSZA
import Derived.Test.YteblnmhaohbkkaaDoorRHNN
import Derived.Test.YteblnmhaohbkkaaDoorRP6
import Derived.Deep.MidRow
namespace Go.Proofs.YteblnmhaohbkkaaDoor
set_option linter.unusedVariables false
set_option linter.unusedSimpArgs false
section
open Go.RowKit Go.Sort
def shortB (l : List ByteArray) (n : Int) : Bool := decide ((∀ k, k < l.length → (l.getD k ⟨#[]⟩).size ≤ 200) ∧ (l.length : Int) ≤ n)
theorem StR.at_ {W : World} {a : Option Addr} {l : List ByteArray} (h : StR W a l) {k : Nat} (hk : k < l.length) : ∃ b off, a = some ⟨b, off, none⟩ ∧ W.cell? ⟨b, off + k, none⟩ = some (.string (l.getD k ⟨#[]⟩)) := by
  obtain ⟨b, off, e, q⟩ := h k (l.getD k ⟨#[]⟩) (by rw [List.getD_eq_getElem?_getD, List.getElem?_eq_getElem hk]; rfl)
  have := q 0 _ rfl
  rw [Nat.mul_one, Nat.add_zero] at this
  exact ⟨b, off, e, this⟩
end
section
open Go.RowKit Go.Sort
theorem one_own (w : World) (s : ByteArray) : OwnS (w.alloc (.cells #[.string s] 9)) w.heap.size (.slice (some ⟨w.heap.size, 0, none⟩) 1 1) [s] :=
  ⟨rfl, .inr ⟨w.heap.size, 1, #[.string s], rfl, Nat.le_refl _, heap_alloc_new w _, Nat.le_refl _, by decide, rfl, rfl⟩⟩
set_option maxRecDepth 100000 in
set_option maxHeartbeats 600000 in
theorem rmake_any (k : Rw) (tag : Int) (t : Nat) (a : Option Addr) (c : Nat) (parts : List ByteArray) (w : World) (ht : tag % 256 = t) (hp : StR w a parts) (hf : parts.length ≤ 36 ∧ ∀ x ∈ parts, x.size ≤ 400) (hs : k.2.2.1.size ≤ 400) (hla : Hs.LaidK w) :
    Calls Tryd.prog 59 #[.agg (encR k).toArray, .int .i64 tag, .slice a parts.length c] w fun e w' => e = .returned (.agg (Hs.bvs (mkS t k.2.2.1 parts))) ∧ Below w.heap.size w w' := by
  have HP := Lib.hid hp
  have HL := Lib.hid hla
  obtain ⟨k1, k2, k3, k4, k5⟩ := k
  simp only at hs
  obtain ⟨n, hn⟩ : ∃ n, parts.length = n := ⟨_, rfl⟩
  have HE := Lib.hid hn
  obtain ⟨L, hL⟩ : ∃ L, [k3] ++ parts ++ [k3] = L := ⟨_, rfl⟩
  have hLl : L.length = n + 2 := by rw [← hL]; simp; omega
  have HFW := Lib.hid (show Hs.Few L from by
    refine ⟨by rw [hLl]; omega, fun x hx => ?_⟩
    rw [← hL] at hx
    simp only [List.mem_append, List.mem_singleton] at hx
    rcases hx with (rfl | hx) | rfl
    · omega
    · exact hf.2 x hx
    · omega)
  have HM := Lib.hid (show mkS t k3 parts = (Hs.sha (Hs.inL t L)).take 16 by unfold mkS; rw [hL])
  have HOF := Lib.hid (fun (a' : Option Addr) (c' : Nat) (X : World) (h : StR X a' L) (hla : Hs.LaidK X) => Hs.ofref_any tag t a' c' L X ht (strs_of h) HFW.out (fun a2 cap2 X2 h2 hb2 => Hs.sumref_any a2 cap2 _ X2 h2 (by have := Hs.inL_len t L HFW.out.2; have := HFW.out.1; omega) (hla.mono hb2)))
  simp only [← HM.out, hLl] at HOF
  simp only [encR]
  rw [hn]
  have VI : (Tryd.prog.info? 36).map (·.size) = some (Hs.bvs (mkS t k3 parts)).size := by rw [Hs.bvs_size, mkS_len]; kernel_rfl
  have VS : (#[Value.int .u8 0, .int .u8 0, .int .u8 0, .int .u8 0, .int .u8 0, .int .u8 0, .int .u8 0, .int .u8 0, .int .u8 0, .int .u8 0, .int .u8 0, .int .u8 0, .int .u8 0, .int .u8 0, .int .u8 0, .int .u8 0] : Array Value).size = (Hs.bvs (mkS t k3 parts)).size := by rw [Hs.bvs_size, mkS_len]; rfl
  have VO := Hs.bvs_one (mkS t k3 parts)
  obtain ⟨V, hV⟩ : ∃ V, Hs.bvs (mkS t k3 parts) = V := ⟨_, rfl⟩
  rw [hV] at VI VS VO ⊢
  simp only [hV] at HOF
  have VI := Lib.hid VI
  have VS := Lib.hid VS
  have VO := Lib.hid VO
  have HLe := Lib.hid hL
  have HNb := Lib.hid (show n ≤ 36 by omega)
  clear hp hla hn hL hLl HM hf hV
  go_enter Tryd.func59, Tryd.ntmps59
  obtain ⟨G, hG⟩ : ∃ G, w.heap.size = G := ⟨_, rfl⟩
  have HG := Lib.hid hG
  have Kk := Lib.hid (show Blk ((w.alloc (.cells #[.int .i64 k1, .int .i64 k2, .string k3, .int .i64 k4, .int .i64 k5] 26)).alloc (.cells #[.int .u8 0, .int .u8 0, .int .u8 0, .int .u8 0, .int .u8 0, .int .u8 0, .int .u8 0, .int .u8 0, .int .u8 0, .int .u8 0, .int .u8 0, .int .u8 0, .int .u8 0, .int .u8 0, .int .u8 0, .int .u8 0] 36)) (G) 26 #[.int .i64 k1, .int .i64 k2, .string k3, .int .i64 k4, .int .i64 k5] from (Blk.new' _ _ _ _ hG rfl).alloc _)
  have Kr := Lib.hid (show Blk ((w.alloc (.cells #[.int .i64 k1, .int .i64 k2, .string k3, .int .i64 k4, .int .i64 k5] 26)).alloc (.cells #[.int .u8 0, .int .u8 0, .int .u8 0, .int .u8 0, .int .u8 0, .int .u8 0, .int .u8 0, .int .u8 0, .int .u8 0, .int .u8 0, .int .u8 0, .int .u8 0, .int .u8 0, .int .u8 0, .int .u8 0, .int .u8 0] 36)) (G + 1) 36 #[.int .u8 0, .int .u8 0, .int .u8 0, .int .u8 0, .int .u8 0, .int .u8 0, .int .u8 0, .int .u8 0, .int .u8 0, .int .u8 0, .int .u8 0, .int .u8 0, .int .u8 0, .int .u8 0, .int .u8 0, .int .u8 0] from Blk.new' _ _ _ _ (by rw [World.size_alloc, hG]) rfl)
  have B := Lib.hid (show Below w.heap.size w ((w.alloc (.cells #[.int .i64 k1, .int .i64 k2, .string k3, .int .i64 k4, .int .i64 k5] 26)).alloc (.cells #[.int .u8 0, .int .u8 0, .int .u8 0, .int .u8 0, .int .u8 0, .int .u8 0, .int .u8 0, .int .u8 0, .int .u8 0, .int .u8 0, .int .u8 0, .int .u8 0, .int .u8 0, .int .u8 0, .int .u8 0, .int .u8 0] 36)) by (repeat' (first | (with_reducible exact Below.refl _ _) | (with_reducible assumption) | (with_reducible refine Below.alloc ?_ ?_ _) | (with_reducible refine Below.drew ?_) | (with_reducible refine below_dn ?_) | (with_reducible refine Below.setCell ?_ ?_ _) | (with_reducible exact Nat.le_refl _) | omega | (simp only [World.size_alloc, World.size_setCell, World.size_drew]; omega) | (simp; omega) | (simp; done))))
  go_upto_region 1 with (fail)
  try rw [hG]
  generalize hw0 : ((w.alloc (.cells #[.int .i64 k1, .int .i64 k2, .string k3, .int .i64 k4, .int .i64 k5] 26)).alloc (.cells #[.int .u8 0, .int .u8 0, .int .u8 0, .int .u8 0, .int .u8 0, .int .u8 0, .int .u8 0, .int .u8 0, .int .u8 0, .int .u8 0, .int .u8 0, .int .u8 0, .int .u8 0, .int .u8 0, .int .u8 0, .int .u8 0] 36)) = w0 at Kk Kr B ⊢
  clear hw0 hG
  obtain ⟨bkc0, bkc1, bkc2, bkc3, bkc4⟩ := five Kk.out
  obtain ⟨brc0, brc1, brc2, brc3, brc4, brc5, brc6, brc7, brc8, brc9, brc10, brc11, brc12, brc13, brc14, brc15⟩ := sixteen Kr.out
  obtain ⟨-, -, kc2, -, -⟩ := five (Kk.out.alloc (.cells #[.string k3] 9))
  obtain ⟨b1, n1, d1, w1, hr1, ho1, hb1⟩ := app_S 112 (w0.alloc (.cells #[.string k3] 9)) w0.heap.size (.slice (some ⟨w0.heap.size, 0, none⟩) 1 1) [k3] (one_own w0 k3) a c parts (HP.out.mono (B.out.trans (((Below.refl _ w0).alloc (Nat.le_refl _) (.cells #[.string k3] 9)).mono B.out.size))) (by simp) (by have := HNb.out; rw [HE.out]; omega) (by rw [World.size_alloc]; omega)
  rw [HE.out] at hr1
  have HR1 := Lib.hid hr1
  have O1 := Lib.hid ho1
  have hb := ((Below.refl _ w0).alloc (Nat.le_refl _) (.cells #[.string k3] 9)).trans hb1
  clear hr1 ho1 hb1
  have Z1 := Lib.hid (show w0.heap.size ≤ w1.heap.size from hb.size)
  obtain ⟨b2, n2, d2, w2, hr2, ho2, hb2⟩ := app_S 112 (w1.alloc (.cells #[.string k3] 9)) w0.heap.size (.slice b1 n1 d1) ([k3] ++ parts) (O1.out.alloc _) (some ⟨w1.heap.size, 0, none⟩) 1 [k3] (rows_one (enc := encT) (e := 9) w1 k3) (by have := HNb.out; have := HE.out; simp; omega) (by simp) (by rw [World.size_alloc]; have := Z1.out; omega)
  have HR2 := Lib.hid hr2
  have hbb := (hb.alloc hb.size (.cells #[.string k3] 9)).trans hb2
  rw [HLe.out] at ho2
  obtain ⟨a9, c9, e9, -, h9⟩ := OwnR.view encT_len ho2
  injection e9 with e91 e92 e93
  subst e91
  subst e93
  have H9 := Lib.hid h9
  have N2 := Lib.hid (show n2 = n + 2 by rw [e92, ← HLe.out]; simp; have := HE.out; omega)
  clear hr2 ho2 h9 e92 HLe
  have Kk1 := Lib.hid (Kk.out.below hb Kk.out.lt)
  obtain ⟨-, -, kd2, -, -⟩ := five Kk1.out
  go_wp2_with (at_builtin; first | (refine wpList_app_run rfl _ _ _ _ rfl _ _ _ w1 rfl rfl HR1.out ?_) | (refine wpList_app_run rfl _ _ _ _ rfl _ _ _ w2 rfl rfl HR2.out ?_))
  have hn2 := N2.out
  subst hn2
  replace Kk := Lib.hid (Kk.out.below hbb Kk.out.lt)
  replace Kr := Lib.hid (Kr.out.below hbb Kr.out.lt)
  replace B := Lib.hid (B.out.trans (hbb.mono B.out.size))
  clear hbb hb hb2 kc2 kd2 Kk1
  clear bkc0 bkc1 bkc2 bkc3 bkc4 brc0 brc1 brc2 brc3 brc4 brc5 brc6 brc7 brc8 brc9 brc10 brc11 brc12 brc13 brc14 brc15
  obtain ⟨bkc0, bkc1, bkc2, bkc3, bkc4⟩ := five Kk.out
  obtain ⟨brc0, brc1, brc2, brc3, brc4, brc5, brc6, brc7, brc8, brc9, brc10, brc11, brc12, brc13, brc14, brc15⟩ := sixteen Kr.out
  go_wp2_with fail
  refine (HOF.out _ _ _ H9.out (HL.out.mono B.out)).mono ?_
  rintro e w1 ⟨rfl, hb⟩
  replace Kk := Lib.hid (Kk.out.below hb Kk.out.lt)
  replace Kr := Lib.hid (Kr.out.below hb Kr.out.lt)
  replace B := Lib.hid (B.out.trans (hb.mono B.out.size))
  clear bkc0 bkc1 bkc2 bkc3 bkc4 brc0 brc1 brc2 brc3 brc4 brc5 brc6 brc7 brc8 brc9 brc10 brc11 brc12 brc13 brc14 brc15
  clear hb
  obtain ⟨bkc0, bkc1, bkc2, bkc3, bkc4⟩ := five Kk.out
  obtain ⟨brc0, brc1, brc2, brc3, brc4, brc5, brc6, brc7, brc8, brc9, brc10, brc11, brc12, brc13, brc14, brc15⟩ := sixteen Kr.out
  clear bkc0 bkc1 bkc2 bkc3 bkc4 brc0 brc1 brc2 brc3 brc4 brc5 brc6 brc7 brc8 brc9 brc10 brc11 brc12 brc13 brc14 brc15
  go_wp2_with (refine Hs.wpList_store_blk rfl 36 _ _ rfl (G + 1) 36 _ V rfl rfl Kr.out VI.out VS.out VO.out rfl ?_)
  refine bodyPost_ret (v := .agg V) (results_cell_row rfl _ _ _ 36 _ (0, 0) _ rfl (Kr.out.row_ _) Tryd.underlying36 rfl VI.out) rfl ⟨rfl, below_setRow B.out (show w.heap.size ≤ G + 1 by have := HG.out; omega) _⟩
end
section
open Go.RowKit Go.Sort
end
end Go.Proofs.YteblnmhaohbkkaaDoor
