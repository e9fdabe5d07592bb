/- Contracts of layer 6: a field that is set once. -/
import Derived.Test.YtegpajdahanhfaaGreatDoorLeaL
namespace Go.Proofs.YtegpajdahanhfaaGreatDoor
open Go.RowKit Go.Shelf Fx Cv Lp
attribute [local go_sem] Oper.semAt_some

/-- The only number of a text. -/
def Lp.oneV (l : List UInt8) : Int := numV ((flds l).headD [])
theorem Lp.one_nums {l : List UInt8} (h : nmB l 1 = true) : nums (flds l) = [oneV l] := by
  unfold nmB at h
  simp at h
  obtain ⟨_, h⟩ := h
  unfold oneV nums
  rcases hf : flds l with _ | ⟨a, _ | ⟨b, r⟩⟩
  · rw [hf] at h; simp at h
  · rfl
  · rw [hf] at h; simp at h
theorem row_cell {W : World} {base : Nat} {e : TypeId} {v : Value} {k : Nat} {xs : List Value} (h : W.ownsRow base e 1 v (k + 1) xs) :
    ∃ g cap, v = .slice (some ⟨g, 0, none⟩) (k + 1) cap ∧ base ≤ g ∧ g < W.heap.size ∧ ∀ i, i < k + 1 → W.cell? ⟨g, i, none⟩ = xs[i]? := by
  obtain ⟨h1, h⟩ := h
  rcases h with ⟨_, h0⟩ | ⟨g, cap, cur, rfl, hg, hgb, hk, hc, hsz, htk⟩
  · omega
  · refine ⟨g, cap, rfl, hg, (Array.getElem?_eq_some_iff.1 hgb).1, fun i hi => ?_⟩
    rw [← htk]
    simp only [World.cell?, hgb]
    have : i < cur.size := by omega
    simp [hi]

set_option maxRecDepth 100000 in
theorem lsetonce_any (x : ByteArray) (hxs : x.size ≤ 4294967280) (hxa : Asc x) (B i j : Nat) (q : Int) (s : Bool) (cs : Array Value) (ty : TypeId) (w : World) (hp : Tab w) (he : Errs w)
    (hbk : w.heap[B]? = some (.cells cs ty (0, 0))) (hi : cs[i]? = some (.int .i64 q)) (hj : cs[j]? = some (.bool s)) (hij : i ≠ j) :
    Calls Tryz.prog 56 #[.pointer (some ⟨B, i, none⟩), .pointer (some ⟨B, j, none⟩), .string x] w fun e w' => e = .returned (.bool (nmB x.data.toList 1 && !s)) ∧
      ∃ w1, Below w.heap.size w w1 ∧ w' = if nmB x.data.toList 1 && !s then (w1.setCell ⟨B, i, none⟩ (.int .i64 (oneV x.data.toList))).setCell ⟨B, j, none⟩ (.bool true) else w1 := by
  have HN := numbers_any x 1 hxs hxa (by omega) w hp he
  have hBlt : B < w.heap.size := (Array.getElem?_eq_some_iff.1 hbk).1
  clear hp he
  cases hn : nmB x.data.toList 1
  · rw [hn] at HN
    go_enter Tryz.func56, Tryz.ntmps56
    go_wp2_with fail
    refine HN.mono ?_
    rintro e w1 ⟨v, rfl, -, hb⟩
    have HB := Lib.hid hb
    clear hb HN
    go_wp2_with fail
    go_ret
    exact ⟨rfl, HB.out⟩
  · rw [hn] at HN
    have hone := one_nums hn
    cases s
    · go_enter Tryz.func56, Tryz.ntmps56
      go_wp2_with fail
      refine HN.mono ?_
      rintro e w1 ⟨v, rfl, hrow, hb⟩
      have hrow := hrow trivial
      rw [hone] at hrow
      obtain ⟨g, cap, rfl, hg, hglt, hcell⟩ := row_cell hrow
      have hbk1 : w1.heap[B]? = some (.cells cs ty (0, 0)) := (hb.block B hBlt).trans hbk
      have c1 : w1.cell? ⟨B, i, none⟩ = some (.int .i64 q) := by simp only [World.cell?, hbk1]; simpa using hi
      have c2 : w1.cell? ⟨B, j, none⟩ = some (.bool false) := by simp only [World.cell?, hbk1]; simpa using hj
      have f1 : w1.frozen? ⟨B, i, none⟩ = false := by simp [World.frozen?, hbk1]
      have f2 : w1.frozen? ⟨B, j, none⟩ = false := by simp [World.frozen?, hbk1]
      have c3 : w1.cell? ⟨g, 0, none⟩ = some (.int .i64 (oneV x.data.toList)) := by rw [hcell 0 (by omega)]; rfl
      have HB := Lib.hid hb
      clear hb HN hrow hone hcell hbk hbk1
      go_wp2_with fail
      go_ret
      exact ⟨rfl, w1, HB.out, rfl⟩
    · go_enter Tryz.func56, Tryz.ntmps56
      go_wp2_with fail
      refine HN.mono ?_
      rintro e w1 ⟨v, rfl, hrow, hb⟩
      have hbk1 : w1.heap[B]? = some (.cells cs ty (0, 0)) := (hb.block B hBlt).trans hbk
      have c2 : w1.cell? ⟨B, j, none⟩ = some (.bool true) := by simp only [World.cell?, hbk1]; simpa using hj
      have HB := Lib.hid hb
      clear hb HN hrow hone hbk hbk1
      go_wp2_with fail
      go_ret
      exact ⟨rfl, HB.out⟩
end Go.Proofs.YtegpajdahanhfaaGreatDoor
