/- Slices of fields: what came in, and what was cloned. -/
import Derived.Test.YtkcllhcinbcgiaaWirX
namespace Go.Proofs.Ytkcllhcinbcgiaa
open Go.RowKit Wi Go.ChangeShapes Go.WideShapes

/-- The slice of n fields at A reads as f and lies below block B. -/
def FReads (w : World) (B : Nat) (A : Option Addr) (n : Nat) (f : Nat → Int × Int) : Prop :=
  (∀ i, 0 ≤ (f i).1 ∧ (f i).1 ≤ 18446744073709551615 ∧ -9223372036854775808 ≤ (f i).2 ∧ (f i).2 ≤ 9223372036854775807) ∧
  (0 < n → ∃ b off, A = some ⟨b, off, none⟩ ∧ b < B ∧ ∀ i, i < n → w.cell? ⟨b, off + i * 2, none⟩ = some (.int .u64 (f i).1) ∧ w.cell? ⟨b, off + i * 2 + 1, none⟩ = some (.int .i64 (f i).2))

/-- A slice of fields that came in: nil, or a row of pairs of cells. -/
def FRow (w : World) (a : Option Addr) (len cap : Nat) (f : Nat → Int × Int) : Prop :=
  (∀ i, 0 ≤ (f i).1 ∧ (f i).1 ≤ 18446744073709551615 ∧ -9223372036854775808 ≤ (f i).2 ∧ (f i).2 ≤ 9223372036854775807) ∧
  ((a = none ∧ len = 0 ∧ cap = 0) ∨ ∃ x, a = some x ∧ len ≤ cap ∧ cap ≤ maxLen ∧ ∀ i, i < len → w.cell? (x.add (i * 2)) = some (.int .u64 (f i).1) ∧ w.cell? (x.add (i * 2 + 1)) = some (.int .i64 (f i).2))

theorem open_fields {H : Type} {enc : TypeId × Value → H} {W : World} {base : Nat} {spare : Nat → Bool} {held : Bool} {fuel : Nat} {a : Option Addr} {len cap : Nat} {x : DataW H × List MemPlace}
    (h : DataW.trod enc Try.prog W base spare held fuel 57 [.slice a len cap] = some x) : ∃ f, FRow W a len cap f := by
  rcases Go.Deep.open_slice_pairs Try.underlying57 Try.underlying60 (by kernel_rfl) rfl rfl (by kernel_rfl) (by kernel_rfl) h with ⟨hcs, _⟩ | ⟨ad, l, c, m, n, V0, V1, D0, D1, P0, P1, hcs, _, hl, hm, hmm, _, hx⟩
  · injection hcs with hcs
    injection hcs with h1 h2 h3
    exact ⟨fun _ => (0, 0), fun i => by simp, .inl ⟨h1, h2, h3⟩⟩
  · injection hcs with hcs
    injection hcs with h1 h2 h3
    subst h1 h2 h3
    have hlm : len ≤ m := by rw [hmm]; split <;> omega
    have each : ∀ i, i < len → ∃ p : Int × Int, (W.cell? (ad.add (i * 2)) = some (.int .u64 p.1) ∧ W.cell? (ad.add (i * 2 + 1)) = some (.int .i64 p.2)) ∧ 0 ≤ p.1 ∧ p.1 ≤ 18446744073709551615 ∧ -9223372036854775808 ≤ p.2 ∧ p.2 ≤ 9223372036854775807 := by
      intro i hi
      obtain ⟨g0, g1, t0, t1⟩ := hx i (by omega)
      obtain ⟨y0, e0, _, b0⟩ := DataW.trod_int Try.underlying32 t0
      obtain ⟨y1, e1, _, b1⟩ := DataW.trod_int Try.underlying3 t1
      injection e0 with e0
      injection e1 with e1
      have c0 := bounds_u64 b0
      have c1 := bounds_i64 b1
      exact ⟨(y0, y1), ⟨by rw [g0, e0], by rw [g1, e1]⟩, c0.1, c0.2, c1.1, c1.2⟩
    refine ⟨fun i => if hi : i < len then Classical.choose (each i hi) else (0, 0), fun i => ?_, .inr ⟨ad, rfl, hl, hm, fun i hi => ?_⟩⟩
    · dsimp only
      by_cases hi : i < len
      · simp only [dif_pos hi]
        exact (Classical.choose_spec (each i hi)).2
      · simp only [dif_neg hi]
        simp
    · simp only [dif_pos hi]
      exact (Classical.choose_spec (each i hi)).1

theorem frow_reads {w : World} {a : Option Addr} {len cap : Nat} {f : Nat → Int × Int} (h : FRow w a len cap f) : FReads w w.heap.size a len f ∧ len ≤ cap ∧ cap ≤ 9223372036854775807 ∧ (a = none → len = 0 ∧ cap = 0) := by
  obtain ⟨hb, h⟩ := h
  rcases h with ⟨rfl, rfl, rfl⟩ | ⟨x, rfl, h1, h2, h3⟩
  · exact ⟨⟨hb, fun h => absurd h (by omega)⟩, Nat.le_refl _, by omega, fun _ => ⟨rfl, rfl⟩⟩
  · unfold maxLen at h2
    refine ⟨⟨hb, fun hp => ?_⟩, h1, by omega, fun e => by cases e⟩
    obtain ⟨b, off, spot⟩ := x
    have hspot : spot = none := by
      have := (h3 0 hp).1
      simpa [Addr.add] using World.cell?_spot this
    subst hspot
    refine ⟨b, off, rfl, ?_, fun i hi => ?_⟩
    · have := (h3 0 hp).1
      rw [Go.WideShapes.add_plain] at this
      rcases Nat.lt_or_ge b w.heap.size with hlt | hge
      · exact hlt
      · simp [World.cell?, Array.getElem?_eq_none hge] at this
    · have := h3 i hi
      rw [Go.WideShapes.add_plain, Go.WideShapes.add_plain] at this
      exact this

/-- Block g holds n fields, and can be written. -/
def FBlk (w : World) (g n : Nat) (f : Nat → Int × Int) : Prop :=
  ∃ cur, w.heap[g]? = some (.cells cur 60 (0, 0)) ∧ ∀ i, i < n → cur[i * 2]? = some (.int .u64 (f i).1) ∧ cur[i * 2 + 1]? = some (.int .i64 (f i).2)
theorem FBlk.lt {w : World} {g n : Nat} {f : Nat → Int × Int} (h : FBlk w g n f) : g < w.heap.size := by
  obtain ⟨cur, h, _⟩ := h
  rcases Nat.lt_or_ge g w.heap.size with hlt | hge
  · exact hlt
  · rw [Array.getElem?_eq_none hge] at h; cases h
theorem FBlk.of_block {w w' : World} {g n : Nat} {f : Nat → Int × Int} (h : FBlk w g n f) (hb : w'.heap[g]? = w.heap[g]?) : FBlk w' g n f := by
  obtain ⟨cur, h, hc⟩ := h
  exact ⟨cur, hb.trans h, hc⟩
theorem FBlk.cells {w : World} {g n : Nat} {f : Nat → Int × Int} (h : FBlk w g n f) {i : Nat} (hi : i < n) : w.cell? ⟨g, i * 2, none⟩ = some (.int .u64 (f i).1) ∧ w.cell? ⟨g, i * 2 + 1, none⟩ = some (.int .i64 (f i).2) ∧ w.frozen? ⟨g, i * 2, none⟩ = false ∧ w.frozen? ⟨g, i * 2 + 1, none⟩ = false := by
  obtain ⟨cur, h, hc⟩ := h
  obtain ⟨h0, h1⟩ := hc i hi
  exact ⟨by simp [World.cell?, h, h0], by simp [World.cell?, h, h1], by simp [World.frozen?, h], by simp [World.frozen?, h]⟩
theorem FBlk.set0 {w : World} {g n : Nat} {f : Nat → Int × Int} (h : FBlk w g n f) {i : Nat} (hi : i < n) (u : Int) : FBlk (w.setCell ⟨g, i * 2, none⟩ (.int .u64 u)) g n (fun j => if j = i then (u, (f i).2) else f j) := by
  obtain ⟨cur, h, hc⟩ := h
  refine ⟨cur.setIfInBounds (i * 2) (.int .u64 u), by simp [World.setCell, Array.getElem?_modify, h], fun j hj => ?_⟩
  have hsz : i * 2 < cur.size := by
    rcases Nat.lt_or_ge (i * 2) cur.size with hlt | hge
    · exact hlt
    · have := (hc i hi).1; rw [Array.getElem?_eq_none hge] at this; cases this
  by_cases e : j = i
  · subst e
    simp only [if_pos]
    refine ⟨by rw [Array.getElem?_setIfInBounds_self, if_pos hsz], ?_⟩
    rw [Array.getElem?_setIfInBounds_ne (by omega)]
    exact (hc j hj).2
  · simp only [if_neg e]
    rw [Array.getElem?_setIfInBounds_ne (by omega), Array.getElem?_setIfInBounds_ne (by omega)]
    exact hc j hj
theorem FBlk.set1 {w : World} {g n : Nat} {f : Nat → Int × Int} (h : FBlk w g n f) {i : Nat} (hi : i < n) (u : Int) : FBlk (w.setCell ⟨g, i * 2 + 1, none⟩ (.int .i64 u)) g n (fun j => if j = i then ((f i).1, u) else f j) := by
  obtain ⟨cur, h, hc⟩ := h
  refine ⟨cur.setIfInBounds (i * 2 + 1) (.int .i64 u), by simp [World.setCell, Array.getElem?_modify, h], fun j hj => ?_⟩
  have hsz : i * 2 + 1 < cur.size := by
    rcases Nat.lt_or_ge (i * 2 + 1) cur.size with hlt | hge
    · exact hlt
    · have := (hc i hi).2; rw [Array.getElem?_eq_none hge] at this; cases this
  by_cases e : j = i
  · subst e
    simp only [if_pos]
    refine ⟨?_, by rw [Array.getElem?_setIfInBounds_self, if_pos hsz]⟩
    rw [Array.getElem?_setIfInBounds_ne (by omega)]
    exact (hc j hj).1
  · simp only [if_neg e]
    rw [Array.getElem?_setIfInBounds_ne (by omega), Array.getElem?_setIfInBounds_ne (by omega)]
    exact hc j hj

/-- The cells of n fields. -/
def fcells (f : Nat → Int × Int) (n : Nat) : List Value := (List.range (n * 2)).map (fun j => if j % 2 = 0 then .int .u64 (f (j / 2)).1 else .int .i64 (f (j / 2)).2)
theorem fcells_at (f : Nat → Int × Int) (n j : Nat) (hj : j < n * 2) : (fcells f n)[j]? = some (if j % 2 = 0 then .int .u64 (f (j / 2)).1 else .int .i64 (f (j / 2)).2) := by
  unfold fcells
  rw [List.getElem?_map, List.getElem?_range hj]; rfl
theorem fcells_len (f : Nat → Int × Int) (n : Nat) : (fcells f n).length = n * 2 := by simp [fcells]
theorem fcells_one (f : Nat → Int × Int) (n : Nat) : ∀ v ∈ fcells f n, v.oneCell' = true := by
  intro v hv
  obtain ⟨x, _, rfl⟩ := List.mem_map.1 hv
  split <;> rfl
theorem FReads.add {w : World} {B : Nat} {ad : Addr} {n : Nat} {f : Nat → Int × Int} (h : FReads w B (some ad) n f) : ∀ j u, (fcells f n)[j]? = some u → w.cell? (ad.add j) = some u := by
  intro j u hj
  have hjn : j < n * 2 := by
    rcases Nat.lt_or_ge j (n * 2) with hlt | hge
    · exact hlt
    · rw [List.getElem?_eq_none (by rw [fcells_len]; exact hge)] at hj; cases hj
  rw [fcells_at f n j hjn] at hj
  injection hj with hj
  subst hj
  obtain ⟨b, off, e, _, hc⟩ := h.2 (by omega)
  injection e with e
  subst e
  rw [Go.WideShapes.add_plain]
  obtain ⟨c0, c1⟩ := hc (j / 2) (by omega)
  by_cases hp : j % 2 = 0
  · rw [if_pos hp]
    rw [show off + j / 2 * 2 = off + j by omega] at c0
    exact c0
  · rw [if_neg hp]
    rw [show off + j / 2 * 2 + 1 = off + j by omega] at c1
    exact c1
theorem FReads.below {w w' : World} {B : Nat} {A : Option Addr} {n : Nat} {f : Nat → Int × Int} (h : FReads w B A n f) (hb : Below B w w') : FReads w' B A n f := ⟨h.1, fun hn => by
  obtain ⟨b, off, e, hB, hc⟩ := h.2 hn
  exact ⟨b, off, e, hB, fun i hi => ⟨(hb.cell hB).trans (hc i hi).1, (hb.cell hB).trans (hc i hi).2⟩⟩⟩

theorem info_field : (Try.prog.info? 60).map (fun i => (i.zero, i.size, i.bytes)) = some (some (.agg #[.int .u64 0, .int .i64 0]), 2, 16) := by kernel_rfl

theorem fempty_own (w : World) : (w.alloc (.cells #[] 60)).ownsRow w.heap.size 60 2 (.slice (some ⟨w.heap.size, 0, none⟩) 0 0) 0 [] :=
  World.ownsRow_made w #[] 0 (Nat.le_refl _) (Nat.zero_le _) rfl

/-- What the clone returns. -/
def FClone (n : Nat) (f : Nat → Int × Int) (w : World) (e : Ending) (w' : World) : Prop :=
  ∃ A' c', e = .returned (.slice A' n c') ∧ (0 < n → ∃ g, A' = some ⟨g, 0, none⟩ ∧ w.heap.size ≤ g ∧ FBlk w' g n f) ∧ n ≤ c' ∧ c' ≤ 9223372036854775807 ∧ Below w.heap.size w w'
/-- The clone. -/
theorem fclone_any (A : Option Addr) (n c : Nat) (f : Nat → Int × Int) (w : World) (hr : FReads w w.heap.size A n f) (hA : A = none → n = 0 ∧ c = 0) (hm : n ≤ 200) :
    Calls Try.prog 61 #[.slice A n c] w (FClone n f w) := by
  obtain ⟨i0, hi0, hz0, hz1, hz2⟩ := info_parts info_field
  rcases A with _ | ad
  · obtain ⟨rfl, rfl⟩ := hA rfl
    have hnil := fun wx => Lib.run_eql_slice_nil (P := Try.prog) wx 57 60 none 0 0 0 0 Try.underlying57
    go_enter Try.func61, Try.ntmps61
    go_wp2_with fail
    go_ret
    exact ⟨none, 0, rfl, fun h => absurd h (by omega), Nat.le_refl _, by omega, Below.refl _ _⟩
  · have hl := Lib.hid (fcells_len f n)
    have ha := Lib.hid ((hr.below ((Below.refl w.heap.size w).alloc (Nat.le_refl _) (.cells #[] 60))).add)
    clear hr
    have hnil := fun wx => Lib.run_eql_slice_nil (P := Try.prog) wx 57 60 (some ad) n c 0 0 Try.underlying57
    go_enter Try.func61, Try.ntmps61
    go_wp2_with (first
      | (at_builtin; refine wpList_append_own _ rfl (.tmp 5) (.tmp 6) _ rfl w.heap.size 60 i0 (.agg #[.int .u64 0, .int .i64 0]) 2 16 Try.underlying57 hi0 hz0 hz1 hz2 rfl (by decide) _ 0 [] rfl (fempty_own w) ad n c (fcells f n) rfl hl.out ha.out (fcells_one f n) (by unfold maxLen; omega) (by omega) (by simp) ?_; intro v1 w1 hown1 hgr1 _))
    rw [Nat.zero_add, List.nil_append] at hown1
    have hgr2 : (w.alloc (.cells #[] 60)).grownBy w1 (some w.heap.size) := hgr1
    have hw1 : Below w.heap.size w w1 := ((Below.refl _ _).alloc (Nat.le_refl _) _).grown hgr2 (by simp) (fun k hk => by injection hk with hk; omega)
    have hfin : ∃ A' c', v1 = .slice A' n c' ∧ (0 < n → ∃ g, A' = some ⟨g, 0, none⟩ ∧ w.heap.size ≤ g ∧ FBlk w1 g n f) ∧ n ≤ c' ∧ c' ≤ 9223372036854775807 := by
      rcases hown1.2 with ⟨rfl, rfl⟩ | ⟨g, cap, cur, rfl, hB, hh, hc, hmx, hs, ht⟩
      · exact ⟨none, 0, rfl, fun h => absurd h (by omega), Nat.le_refl _, by omega⟩
      · unfold maxLen at hmx
        refine ⟨_, cap, rfl, fun _ => ⟨g, rfl, hB, cur, hh, fun i hi => ?_⟩, hc, by omega⟩
        have at_ : ∀ j, j < n * 2 → cur[j]? = (fcells f n)[j]? := fun j hj => by
          rw [← ht, List.getElem?_take, if_pos hj, Array.getElem?_toList]
        rw [at_ _ (by omega), at_ _ (by omega), fcells_at f n _ (by omega), fcells_at f n _ (by omega), if_pos (by omega), if_neg (by omega), show i * 2 / 2 = i by omega, show (i * 2 + 1) / 2 = i by omega]
        exact ⟨rfl, rfl⟩
    obtain ⟨A', c', rfl, h1, h2, h3⟩ := hfin
    have H1 := Lib.hid h1
    clear hown1 hgr1 hgr2 h1
    go_wp2_with fail
    go_ret
    exact ⟨A', c', rfl, H1.out, h2, h3, hw1⟩
end Go.Proofs.Ytkcllhcinbcgiaa
