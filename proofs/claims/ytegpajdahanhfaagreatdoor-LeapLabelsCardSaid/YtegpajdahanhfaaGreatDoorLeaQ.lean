/- Contracts of layer 6: the line of an entry; any line. -/
import Derived.Test.YtegpajdahanhfaaGreatDoorLeaP
import Derived.Deep.RegionLaw
import Derived.Maps.AppendAt
namespace Go.Proofs.YtegpajdahanhfaaGreatDoor
open Go.RowKit Go.Shelf Fx Cv Lp

theorem Lp.infoE : (Tryz.prog.info? 44).map (fun i => (i.zero, i.size, i.bytes)) = some (some (.agg #[.int .i64 0, .int .i64 0]), 2, 16) := by kernel_rfl
def Lp.fst2 (l : List UInt8) : Int := numV ((flds l).headD [])
def Lp.snd2 (l : List UInt8) : Int := numV (((flds l).drop 1).headD [])
theorem Lp.two_nums {l : List UInt8} (h : nmB l 2 = true) : nums (flds l) = [fst2 l, snd2 l] := by
  unfold nmB at h
  simp at h
  obtain ⟨_, h⟩ := h
  unfold fst2 snd2 nums
  rcases hf : flds l with _ | ⟨a, _ | ⟨b, _ | ⟨c, r⟩⟩⟩
  · rw [hf] at h; simp at h
  · rw [hf] at h; simp at h
  · rfl
  · rw [hf] at h; simp at h
theorem Lp.ents_snoc (l : List (Int × Int)) (a b : Int) : ents (l ++ [(a, b)]) = ents l ++ [.int .i64 a, .int .i64 b] := by simp [ents]

theorem Lp.row_lt {W : World} {base : Nat} {e : TypeId} {size : Nat} {v : Value} {k : Nat} {xs : List Value} (h : W.ownsRow base e size v k xs) (j : Nat) (hj : v.ownBlock = some j) : j < W.heap.size := by
  rcases h.2 with ⟨rfl, _⟩ | ⟨g, cap, cur, rfl, _, hgb, _⟩
  · cases hj
  · obtain rfl : g = j := by simpa [Value.ownBlock] using hj
    exact (Array.getElem?_eq_some_iff.1 hgb).1

theorem Lp.row_ge {W : World} {base : Nat} {e : TypeId} {size : Nat} {v : Value} {k : Nat} {xs : List Value} (h : W.ownsRow base e size v k xs) (j : Nat) (hj : v.ownBlock = some j) : base ≤ j := by
  rcases h.2 with ⟨rfl, _⟩ | ⟨g, cap, cur, rfl, hg, _⟩
  · cases hj
  · obtain rfl : g = j := by simpa [Value.ownBlock] using hj
    exact hg

theorem Lp.entry_fin {B : Nat} {w w4 : World} {s : RS} {n0 n1 : Int} {v : Value} {k g' cap' : Nat} (hk : s.l.length = k)
    (h3 : w4.heap[B]? = some (.cells #[.int .i64 s.b, .int .i64 s.e, v, .bool s.he, .bool s.hb] 57 (0, 0))) (h5 : Below B w w4)
    (ho : w4.ownsRow (B + 1) 44 2 (.slice (some ⟨g', 0, none⟩) (k + 1) cap') (k + 1) (ents s.l ++ [.int .i64 n0, .int .i64 n1])) :
    RPost B w s (some { s with l := s.l ++ [(n0, n1)] }) (.returned (.bool true)) (w4.setCell ⟨B, 2, none⟩ (.slice (some ⟨g', 0, none⟩) (k + 1) cap')) := by
  refine ⟨rfl, ⟨_, by rw [setblk h3 _]; rfl, ?_⟩, h5.setCell (p := ⟨B, 2, none⟩) (Nat.le_refl B) _⟩
  show World.ownsRow _ _ _ _ _ (s.l ++ [(n0, n1)]).length (ents (s.l ++ [(n0, n1)]))
  rw [ents_snoc, List.length_append, hk]
  exact ho.kept (grown_set _ B 2 _) (.inr (row_ne ho (by omega)))

set_option maxRecDepth 100000 in
set_option maxHeartbeats 1000000 in
theorem lread_entry (x : ByteArray) (hxs : x.size ≤ 4294967280) (hxa : Asc x) (B : Nat) (s : RS) (hsl : s.l.length ≤ 4294967280) (w : World) (hp : Tab w) (he : Errs w) (hR : RR B w s) (h0 : tagV [35, 64] x.data.toList = none) (h1 : tagV [35, 61] x.data.toList = none) (h2 : trL (trR (cutL 35 x.data.toList)) ≠ []) (h3 : nmB (cutL 35 x.data.toList) 2 = true) :
    Calls Tryz.prog 40 #[.pointer (some ⟨B, 0, none⟩), .string x] w (RPost B w s (readV x.data.toList s)) := by
  obtain ⟨n0, hn0⟩ : ∃ n, fst2 (cutL 35 x.data.toList) = n := ⟨_, rfl⟩
  obtain ⟨n1, hn1⟩ : ∃ n, snd2 (cutL 35 x.data.toList) = n := ⟨_, rfl⟩
  have HV : Hid (readV x.data.toList s = some { s with l := s.l ++ [(n0, n1)] }) := Lib.hid (by
    rw [← hn0, ← hn1]
    unfold readV; rw [h0, h1]
    rcases hq : trL (trR (cutL 35 x.data.toList)) with _ | ⟨a, q⟩
    · exact absurd hq h2
    · simp only [h3]; rfl)
  obtain ⟨i0, hi, hz0, hz1, hz2⟩ := info_parts infoE
  obtain ⟨C, hC⟩ : ∃ C : ByteArray, mk (cutL 35 x.data.toList) = C := ⟨_, rfl⟩
  have hCd : C.data.toList = cutL 35 x.data.toList := by rw [← hC]; rfl
  have hsub : (cutL 35 x.data.toList).Sublist x.data.toList := List.takeWhile_sublist _
  have hCs : C.size ≤ 4294967280 := by
    have e1 : C.data.toList.length = C.size := Array.length_toList
    have e2 : x.data.toList.length = x.size := Array.length_toList
    have := hsub.length_le
    rw [hCd] at e1
    omega
  have HN := numbers_any C 2 hCs (fun b hb => hxa b (hsub.subset (by rw [← hCd]; exact hb))) (by omega)
  rw [hCd, h3, two_nums h3, hn0, hn1] at HN
  obtain ⟨T, hT⟩ : ∃ T : ByteArray, (⟨(trL (trR C.data.toList)).toArray⟩ : ByteArray) = T := ⟨_, rfl⟩
  have hTd : T.data.toList = trL (trR C.data.toList) := by rw [← hT]
  have hne : ¬ T.toList = [] := by rw [Lib.toList_data, hTd, hCd]; exact h2
  have hne2 : T.toList.isEmpty = false := by simpa using hne
  have HR := Lib.hid hR
  have HP := Lib.hid hp
  have HE := Lib.hid he
  have HT0 := Lib.hid h0
  have HT1 := Lib.hid h1
  have HT2 := Lib.hid hT
  have HC := Lib.hid hC
  have hBl := hR.lt
  have HSL := Lib.hid hsl
  clear hR h0 h1 h2 h3 hC hCd hT hTd hp he hsub hn0 hn1 hsl
  go_enter Tryz.func40, Tryz.ntmps40
  go_wp2_with fail
  refine (ltag_none x ⟨#[35, 64]⟩ w HT0.out).mono ?_
  rintro e w' ⟨rfl, hw'⟩; subst w'
  go_wp2_with fail
  refine (ltag_none x ⟨#[35, 61]⟩ w HT1.out).mono ?_
  rintro e w' ⟨rfl, hw'⟩; subst w'
  go_wp2_with fail
  refine (lcut_any 35 x w (by omega)).mono ?_
  rintro e w1 ⟨f, rfl, k, hw1⟩
  have HB1 : Hid (Below w.heap.size w w1) := Lib.hid (by rw [hw1]; exact below_drewN (Below.refl _ _) k)
  clear hw1
  rw [HC.out]
  go_wp2_with fail
  refine (trim_any C w1 (by omega)).mono ?_
  rintro e w2 ⟨rfl, hb2⟩
  have HB2 := Lib.hid (HB1.out.trans (hb2.mono HB1.out.size))
  clear hb2
  rw [HT2.out]
  go_wp2_with fail
  refine (HN w2 (HP.out.below HB2.out) (HE.out.below HB2.out)).mono ?_
  rintro e w3 ⟨v, rfl, hrow, hb3⟩
  replace hrow := hrow trivial
  have HB3 := Lib.hid (HB2.out.trans (hb3.mono HB2.out.size))
  obtain ⟨g, cap, rfl, hg, hgl, hcell⟩ := row_cell hrow
  have c0 : w3.cell? ⟨g, 0, none⟩ = some (.int .i64 n0) := by rw [hcell 0 (by omega)]; rfl
  have c1 : w3.cell? ⟨g, 1, none⟩ = some (.int .i64 n1) := by rw [hcell 1 (by omega)]; rfl
  have hwg : w.heap.size ≤ g := by have := HB2.out.size; omega
  obtain ⟨V, hblk0, hown0⟩ := HR.out
  have hgrl : V.ownBlock ≠ some g := fun h => by have := row_lt hown0 g h; omega
  have hblk := (HB3.out.block B hBl).trans hblk0
  have hown := row_below hown0 HB3.out
  have hBV := row_ne hown0 (show B < B + 1 by omega)
  obtain ⟨k, hk⟩ : ∃ k, s.l.length = k := ⟨_, rfl⟩
  rw [hk] at hown
  obtain ⟨p, c, rfl⟩ := row_form hown
  have c2 : w3.cell? ⟨B, 2, none⟩ = some (.slice p k c) := by simp [World.cell?, hblk]
  have HK := Lib.hid hk
  have hkl : k ≤ 4294967280 := by rw [← hk]; exact HSL.out
  have HOWN : Hid (w3.ownsRow (B + 1) 44 2 (.slice p k c) k (ents s.l)) := Lib.hid hown
  have HBLK := Lib.hid hblk
  have hB3 : B < w3.heap.size := by have := HB3.out.size; omega
  have hBg : B ≠ g := by omega
  obtain ⟨D, hD⟩ : ∃ D, w3.heap.size = D := ⟨_, rfl⟩
  rw [hD] at hgl hB3
  have HD := Lib.hid hD
  obtain ⟨Z, hZ⟩ : ∃ Z, (w3.alloc (.cells #[.int .i64 n0, .int .i64 n1] 44)).drew = Z := ⟨_, rfl⟩
  have hH : Z.heap.size = D + 1 := by rw [← hZ, ← hD]; simp
  have z3 : Z.heap[B]? = some (.cells #[.int .i64 s.b, .int .i64 s.e, .slice p k c, .bool s.he, .bool s.hb] 57 (0, 0)) := by rw [← hZ]; exact (Below.heap_alloc _ _ _ (by omega)).trans hblk
  have z4 : Z.ownsRow (B + 1) 44 2 (.slice p k c) k (ents s.l) := by rw [← hZ]; exact HOWN.out.alloc _
  have z5 : ∀ j u, [Value.int .i64 n0, .int .i64 n1][j]? = some u → Z.cell? ((⟨w3.heap.size, 0, none⟩ : Addr).add j) = some u := by
    rw [← hZ]; exact World.news_of_block (B := w3.heap.size) (cs := #[.int .i64 n0, .int .i64 n1]) (t := 44) (fr := (0, 0)) (heap_alloc_new _ _)
  have z6 : Below B w Z := by
    rw [← hZ]; exact ((HB3.out.mono (by omega)).alloc (by omega) _).drew
  have HZ := Lib.hid (And.intro hH (And.intro z3 (And.intro z4 (And.intro z5 z6))))
  have HZE := Lib.hid hZ
  have HBV := Lib.hid hBV
  have a2 : (w3.alloc (.cells #[.int .i64 n0, .int .i64 n1] 44)).cell? ⟨B, 2, none⟩ = some (.slice p k c) := cell_kept c2 (World.grownBy_alloc w3 _ none) (fun r e => by cases e)
  clear hk hb3 hrow hcell hblk hown hown0 hblk0 hD hH hgrl hBV z3 z4 z5 z6 hZ
  go_wp2_with fail
  go_region_law ((rw [HZE.out]; obtain ⟨hH, z3, z4, z5, z6⟩ := HZ.out; refine step_append_lies _ (by rfl) _ _ _ (by rfl) (B + 1) 44 i0 (.agg #[.int .i64 0, .int .i64 0]) 2 16 Tryz.underlying22 hi hz0 hz1 hz2 (by rfl) (by decide) (.slice p k c) k (ents s.l) (by rfl) z4 ⟨w3.heap.size, 0, none⟩ 1 1 [.int .i64 n0, .int .i64 n1] (by rfl) (by rfl) z5 (by simp [Value.oneCell']) (by decide) (by have : maxLen = 9223372036854775807 := rfl; omega) (by omega) (by rw [hH]; omega) (D + 1) hH ?_; intro g' cap' w4 hown4 hgrow hat hlt; have y3 : w4.heap[B]? = some (.cells #[.int .i64 s.b, .int .i64 s.e, .slice p k c, .bool s.he, .bool s.hb] 57 (0, 0)) := (hgrow.block B (by rw [hH]; exact Nat.lt_succ_of_lt hB3) (Ne.symm HBV.out)).trans z3; have y0 : w4.cell? ⟨B, 2, none⟩ = some (.slice p k c) := (by simp [World.cell?, y3]); have y4 : w4.frozen? ⟨B, 2, none⟩ = false := (by simp [World.frozen?, y3]); have y5 : Below B w w4 := z6.grown hgrow (by rw [hH]; omega) (fun q hq => by have := row_ge z4 q hq; omega); have HY3 := Lib.hid y3; have HY5 := Lib.hid y5; have HO4 := Lib.hid hown4; clear y3 y5 hown4 hgrow hat hlt z3 z4 z5 z6 hH))
  all_goals (go_wp2_with fail; go_ret; rw [HV.out]; exact entry_fin HK.out HY3.out HY5.out HO4.out)

set_option maxRecDepth 100000 in
/-- Any line. -/
theorem lread_any (x : ByteArray) (hxs : x.size ≤ 4294967280) (hxa : Asc x) (B : Nat) (s : RS) (hsl : s.l.length ≤ 4294967280) (w : World) (hp : Tab w) (he : Errs w) (hR : RR B w s) :
    Calls Tryz.prog 40 #[.pointer (some ⟨B, 0, none⟩), .string x] w (RPost B w s (readV x.data.toList s)) := by
  cases h0 : tagV [35, 64] x.data.toList with
  | some r => exact lread_tagE x (mk r) hxs hxa B s w hp he hR h0
  | none =>
    cases h1 : tagV [35, 61] x.data.toList with
    | some r => exact lread_tagB x (mk r) hxs hxa B s w hp he hR h0 h1
    | none =>
      by_cases h2 : trL (trR (cutL 35 x.data.toList)) = []
      · exact lread_blank x hxs B s w hR h0 h1 h2
      · cases h3 : nmB (cutL 35 x.data.toList) 2
        · exact lread_bad x hxs hxa B s w hp he hR h0 h1 h2 h3
        · exact lread_entry x hxs hxa B s hsl w hp he hR h0 h1 h2 h3
end Go.Proofs.YtegpajdahanhfaaGreatDoor
