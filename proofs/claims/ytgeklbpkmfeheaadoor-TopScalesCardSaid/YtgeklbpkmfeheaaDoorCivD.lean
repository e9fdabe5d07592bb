/- Contracts of layer 5: boxes of civil times; Of of the specification. -/
import Derived.Test.YtgeklbpkmfeheaaDoorCivC
namespace Go.Proofs.YtgeklbpkmfeheaaDoor
open Go.RowKit Fx Cv

/-- Block B is the box of a civil time. -/
def Cv.Bx7 (w : World) (B : Nat) (y m d hh mi s n : Int) : Prop := w.heap[B]? = some (.cells #[.int .i64 y, .int .i64 m, .int .i64 d, .int .i64 hh, .int .i64 mi, .int .i64 s, .int .i64 n] 54 (0, 0))
theorem Cv.Bx7.lt {w : World} {B : Nat} {y m d hh mi s n : Int} (h : Bx7 w B y m d hh mi s n) : B < w.heap.size := by
  rcases Nat.lt_or_ge B w.heap.size with hlt | hge
  · exact hlt
  · unfold Bx7 at h; rw [Array.getElem?_eq_none hge] at h; cases h
theorem Cv.Bx7.cells {w : World} {B : Nat} {y m d hh mi s n : Int} (h : Bx7 w B y m d hh mi s n) :
    w.cell? ⟨B, 0, none⟩ = some (.int .i64 y) ∧ w.cell? ⟨B, 1, none⟩ = some (.int .i64 m) ∧ w.cell? ⟨B, 2, none⟩ = some (.int .i64 d) ∧ w.cell? ⟨B, 3, none⟩ = some (.int .i64 hh) ∧ w.cell? ⟨B, 4, none⟩ = some (.int .i64 mi) ∧ w.cell? ⟨B, 5, none⟩ = some (.int .i64 s) ∧ w.cell? ⟨B, 6, none⟩ = some (.int .i64 n) := seven_cells h
theorem Cv.Bx7.thaw {w : World} {B : Nat} {y m d hh mi s n : Int} (h : Bx7 w B y m d hh mi s n) :
    w.frozen? ⟨B, 0, none⟩ = false ∧ w.frozen? ⟨B, 1, none⟩ = false ∧ w.frozen? ⟨B, 2, none⟩ = false ∧ w.frozen? ⟨B, 3, none⟩ = false ∧ w.frozen? ⟨B, 4, none⟩ = false ∧ w.frozen? ⟨B, 5, none⟩ = false ∧ w.frozen? ⟨B, 6, none⟩ = false := by
  unfold Bx7 at h; simp [World.frozen?, h]
theorem Cv.Bx7.below {w w' : World} {B D : Nat} {y m d hh mi s n : Int} (h : Bx7 w B y m d hh mi s n) (hb : Below D w w') (hB : B < D) : Bx7 w' B y m d hh mi s n := (hb.block B hB).trans h
theorem Cv.Bx7.alloc {w : World} {B : Nat} {y m d hh mi s n : Int} (h : Bx7 w B y m d hh mi s n) (o : Obj) : Bx7 (w.alloc o) B y m d hh mi s n := (Below.heap_alloc _ _ _ h.lt).trans h
theorem Cv.bx7_new (w : World) (y m d hh mi s n : Int) : Bx7 (w.alloc (.cells #[.int .i64 y, .int .i64 m, .int .i64 d, .int .i64 hh, .int .i64 mi, .int .i64 s, .int .i64 n] 54)) w.heap.size y m d hh mi s n := heap_alloc_new w _
theorem Cv.Bx7.set0 {w : World} {B : Nat} {y m d hh mi s n : Int} (h : Bx7 w B y m d hh mi s n) (v : Int) : Bx7 (w.setCell ⟨B, 0, none⟩ (.int .i64 v)) B v m d hh mi s n := by
  unfold Bx7 at *; simp [World.setCell, Array.getElem?_modify, h]
theorem Cv.Bx7.set1 {w : World} {B : Nat} {y m d hh mi s n : Int} (h : Bx7 w B y m d hh mi s n) (v : Int) : Bx7 (w.setCell ⟨B, 1, none⟩ (.int .i64 v)) B y v d hh mi s n := by
  unfold Bx7 at *; simp [World.setCell, Array.getElem?_modify, h]
theorem Cv.Bx7.set2 {w : World} {B : Nat} {y m d hh mi s n : Int} (h : Bx7 w B y m d hh mi s n) (v : Int) : Bx7 (w.setCell ⟨B, 2, none⟩ (.int .i64 v)) B y m v hh mi s n := by
  unfold Bx7 at *; simp [World.setCell, Array.getElem?_modify, h]
theorem Cv.Bx7.set3 {w : World} {B : Nat} {y m d hh mi s n : Int} (h : Bx7 w B y m d hh mi s n) (v : Int) : Bx7 (w.setCell ⟨B, 3, none⟩ (.int .i64 v)) B y m d v mi s n := by
  unfold Bx7 at *; simp [World.setCell, Array.getElem?_modify, h]
theorem Cv.Bx7.set4 {w : World} {B : Nat} {y m d hh mi s n : Int} (h : Bx7 w B y m d hh mi s n) (v : Int) : Bx7 (w.setCell ⟨B, 4, none⟩ (.int .i64 v)) B y m d hh v s n := by
  unfold Bx7 at *; simp [World.setCell, Array.getElem?_modify, h]
theorem Cv.Bx7.set5 {w : World} {B : Nat} {y m d hh mi s n : Int} (h : Bx7 w B y m d hh mi s n) (v : Int) : Bx7 (w.setCell ⟨B, 5, none⟩ (.int .i64 v)) B y m d hh mi v n := by
  unfold Bx7 at *; simp [World.setCell, Array.getElem?_modify, h]
theorem Cv.Bx7.set6 {w : World} {B : Nat} {y m d hh mi s n : Int} (h : Bx7 w B y m d hh mi s n) (v : Int) : Bx7 (w.setCell ⟨B, 6, none⟩ (.int .i64 v)) B y m d hh mi s v := by
  unfold Bx7 at *; simp [World.setCell, Array.getElem?_modify, h]
theorem Cv.Bx7.store {w : World} {B : Nat} {y m d hh mi s n : Int} (h : Bx7 w B y m d hh mi s n) (y' m' d' hh' mi' s' n' : Int) :
    Bx7 (((((((w.setCell ⟨B, 0, none⟩ (.int .i64 y')).setCell ⟨B, 1, none⟩ (.int .i64 m')).setCell ⟨B, 2, none⟩ (.int .i64 d')).setCell ⟨B, 3, none⟩ (.int .i64 hh')).setCell ⟨B, 4, none⟩ (.int .i64 mi')).setCell ⟨B, 5, none⟩ (.int .i64 s')).setCell ⟨B, 6, none⟩ (.int .i64 n')) B y' m' d' hh' mi' s' n' := by
  unfold Bx7 at *; simp [World.setCell, Array.getElem?_modify, h]
theorem Cv.Bx7.other {w : World} {B C i : Nat} {y m d hh mi s n : Int} (h : Bx7 w B y m d hh mi s n) (hne : B ≠ C) (v : Value) : Bx7 (w.setCell ⟨C, i, none⟩ v) B y m d hh mi s n :=
  (Below.heap_setCell w ⟨C, i, none⟩ v B (fun e => hne (by rw [e]))).trans h
theorem Cv.below_set {a w : World} {B C i : Nat} (h : Below B a w) (hC : B ≤ C) (v : Value) : Below B a (w.setCell ⟨C, i, none⟩ v) :=
  h.trans ⟨rfl, rfl, rfl, by simp [World.setCell], fun k hk => Below.heap_setCell w ⟨C, i, none⟩ v k (fun e => by simp at e; omega)⟩

/-- The parts of a second. -/
def Cv.oY (t : Int) : Int := cy (t / 86400)
def Cv.oM (t : Int) : Int := cm (t / 86400)
def Cv.oD (t : Int) : Int := cd (t / 86400)
def Cv.oH (t : Int) : Int := t % 86400 / 3600
def Cv.oI (t : Int) : Int := t % 86400 / 60 % 60
def Cv.oS (t : Int) : Int := t % 86400 % 60
theorem Cv.of_end {t Y M D : Int} (h : D + ys Y + ms Y M = t / 86400) (h0 : 0 ≤ D) (h1 : D < md Y M) (m0 : 1 ≤ M) (m1 : M ≤ 12) : oY t = Y ∧ oM t = M ∧ oD t = D + 1 := by
  have hd : Dat Y M (D + 1) := ⟨m0, m1, by omega, by omega⟩
  have hn : num Y M (D + 1) = t / 86400 := by simp only [num]; omega
  have := civ_num hd
  rw [hn] at this
  exact this
theorem Cv.ys_low {y : Int} (h : -100000 ≤ ys y) : 1600 ≤ y := by
  rcases Int.lt_or_le y 1600 with h2 | h2
  · have := ys_mono (y := y) (z := 1600) (by omega); rw [ys_1600] at this; omega
  · exact h2
theorem Cv.ys_high {y : Int} (h : ys y ≤ 100000) : y ≤ 2200 := by
  rcases Int.lt_or_le 2200 y with h2 | h2
  · have := ys_mono (y := 2200) (z := y) (by omega); rw [ys_2200] at this; omega
  · exact h2
theorem Cv.of_round1 {D Y q : Int} (h : D + ys Y = q) (q0 : -93000 ≤ q) (hD : D < 0) : D + yd (Y - 1) + ys (Y - 1) = q ∧ 1600 ≤ Y - 1 ∧ D + yd (Y - 1) < 366 := by
  have e := ys_succ (Y - 1)
  rw [show Y - 1 + 1 = Y by omega] at e
  have b := yd_bound (Y - 1)
  exact ⟨by omega, ys_low (by omega), by omega⟩
theorem Cv.of_round2 {D Y q : Int} (h : D + ys Y = q) (q1 : q ≤ 93000) (hD : yd Y ≤ D) : D - yd Y + ys (Y + 1) = q ∧ Y + 1 ≤ 2200 ∧ 0 ≤ D - yd Y := by
  have e := ys_succ Y
  exact ⟨by omega, ys_high (by omega), by omega⟩
theorem Cv.of_round3 {D Y M q : Int} (h : D + ys Y + ms Y M = q) (hb : D + ms Y M < yd Y) (m0 : 1 ≤ M) (m1 : M ≤ 12) (hD : md Y M ≤ D) : D - md Y M + ys Y + ms Y (M + 1) = q ∧ D - md Y M + ms Y (M + 1) < yd Y ∧ M + 1 ≤ 12 ∧ 0 ≤ D - md Y M := by
  have e := ms_succ (y := Y) m0 m1
  have e13 := ms_13 Y
  refine ⟨by omega, by omega, ?_, by omega⟩
  rcases (show M ≤ 11 ∨ M = 12 by omega) with h12 | rfl
  · omega
  · rw [show (12 + 1 : Int) = 13 from rfl] at e; omega
theorem Cv.ret_ce {y m d hh mi s n y' m' d' hh' mi' s' n' e e' : Int} (h1 : y = y') (h2 : m = m') (h3 : d = d') (h4 : hh = hh') (h5 : mi = mi') (h6 : s = s') (h7 : n = n') (h8 : e = e') :
    Ending.returned (.tuple #[.agg #[.int .i64 y, .int .i64 m, .int .i64 d, .int .i64 hh, .int .i64 mi, .int .i64 s, .int .i64 n], .int .i64 e]) = .returned (.tuple #[.agg #[.int .i64 y', .int .i64 m', .int .i64 d', .int .i64 hh', .int .i64 mi', .int .i64 s', .int .i64 n'], .int .i64 e']) := by subst h1 h2 h3 h4 h5 h6 h7 h8; rfl

end Go.Proofs.YtgeklbpkmfeheaaDoor
