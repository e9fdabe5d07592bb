/- Contracts of layer 4: Encode. -/
import Derived.Test.YtiecbpecpoojkaaPtmD
import Derived.Test.YtiecbpecpoojkaaWirJ
namespace Go.Proofs.Ytiecbpecpoojkaa
open Go.RowKit Fx Pt Wi

theorem Pt.fit6 {s : Int} (h0 : 0 ≤ s) (h1 : s ≤ 281474976710655) : s / 2 ^ (8 * 6) = 0 := by
  rw [show (2 : Int) ^ (8 * 6) = 281474976710656 from by decide]; omega
theorem Pt.fit4 {n : Int} (h0 : 0 ≤ n) (h1 : n < 1000000000) : n / 2 ^ (8 * 4) = 0 := by
  rw [show (2 : Int) ^ (8 * 4) = 4294967296 from by decide]; omega
theorem Pt.beB_bytes (n : Int) : ∀ k, Bytes (beB n k) := by
  intro k
  induction k with
  | zero => intro x hx; simp [beB] at hx
  | succ k ih =>
    intro x hx
    rcases List.mem_cons.1 hx with rfl | hx
    · unfold byteAt; omega
    · exact ih x hx
/-- The ten bytes. -/
def Pt.enc (s n : Int) : List Int := beB s 6 ++ beB n 4
theorem Pt.enc_len (s n : Int) : (enc s n).length = 10 := by simp [enc, beB_length]
theorem Pt.enc_bytes (s n : Int) : Bytes (enc s n) := (beB_bytes s 6).append (beB_bytes n 4)
theorem Pt.ret_vi {v v' : Value} {e e' : Int} (h : v = v') (h' : e = e') : Ending.returned (.tuple #[v, .int .i64 e]) = .returned (.tuple #[v', .int .i64 e']) := by rw [h, h']

theorem encode_no (s n : Int) (w : World) (h : ok s n = false) :
    Calls Try.prog 9 #[.agg #[.int .i64 s, .int .i64 n]] w fun e w' => e = .returned (.tuple #[.slice none 0 0, .int .i64 3]) ∧ Below w.heap.size w w' := by
  have HK : Hid (chk s n = 3) := Lib.hid (by unfold chk; rw [h]; rfl)
  clear h
  go_enter Try.func9, Try.ntmps9
  go_wp2_with fail
  refine (pcheck_any s n _).mono ?_
  rintro e w' ⟨rfl, rfl⟩
  rw [HK.out]
  go_wp2_with fail
  go_ret2
  exact ⟨rfl, ((Below.refl _ _).alloc (Nat.le_refl _) _).alloc (by simp) _⟩
theorem bcell {W w1 : World} (hb : Below W.heap.size W w1) : (∀ b o, b < W.heap.size → w1.cell? ⟨b, o, none⟩ = W.cell? ⟨b, o, none⟩) ∧ (∀ b o, b < W.heap.size → w1.frozen? ⟨b, o, none⟩ = W.frozen? ⟨b, o, none⟩) :=
  ⟨fun b o h => hb.cell (p := ⟨b, o, none⟩) h, fun b o h => hb.frozen (p := ⟨b, o, none⟩) h⟩

set_option maxRecDepth 100000 in
theorem encode_ok (s n : Int) (w : World) (h : ok s n = true) :
    Calls Try.prog 9 #[.agg #[.int .i64 s, .int .i64 n]] w fun e w' => ∃ g, e = .returned (.tuple #[.slice (some ⟨g, 0, none⟩) 10 10, .int .i64 0]) ∧ w.heap.size ≤ g ∧ BBlk w' g (enc s n) ∧ Below w.heap.size w w' := by
  obtain ⟨s0, s1, n0, n1⟩ := ok_iff.1 h
  have HK := Lib.hid (chk_yes s0 s1 n0 n1)
  have F6 := Lib.hid (fit6 s0 s1)
  have F4 := Lib.hid (fit4 n0 n1)
  clear h
  have hb0 : Below w.heap.size w ((w.alloc (.cells #[.int .i64 s, .int .i64 n] 33)).alloc (.cells #[.int .i64 s, .int .i64 n] 33)) := ((Below.refl _ _).alloc (Nat.le_refl _) _).alloc (by simp) _
  go_enter Try.func9, Try.ntmps9
  go_wp2_with fail
  refine (pcheck_any s n _).mono ?_
  rintro e w' ⟨rfl, rfl⟩
  rw [HK.out]
  go_wp2_with fail
  refine (append_ok none 0 0 [] s 6 _ BReads.nil (by omega) (by decide) (by decide) F6.out).mono ?_
  rintro e w1 ⟨rfl, hB1, hw1⟩
  rw [List.nil_append, show ((w.alloc (.cells #[.int .i64 s, .int .i64 n] 33)).alloc (.cells #[.int .i64 s, .int .i64 n] 33)).heap.size = w.heap.size + 1 + 1 from by simp] at hB1
  obtain ⟨hc, hf⟩ := bcell hw1
  have HB1 := Lib.hid hB1
  have HW1 := Lib.hid (hb0.trans (hw1.mono (by simp; omega)))
  have hz : w.heap.size + 2 < w1.heap.size := by have := hB1.lt; omega
  clear hB1 hb0 hw1
  go_wp2_with fail
  refine (append_ok (some ⟨w.heap.size + 1 + 1, 0, none⟩) 6 6 (beB s 6) n 4 w1 ((HB1.out.reads (beB_bytes s 6) HB1.out.lt)) (by omega) (by decide) (by decide) F4.out).mono ?_
  rintro e w2 ⟨rfl, hB2, hw2⟩
  have HB2 := Lib.hid hB2
  have HW2 := Lib.hid (HW1.out.trans (hw2.mono HW1.out.size))
  have hz2 := HW1.out.size
  clear hB2 hw2
  go_wp2_with fail
  go_ret2
  exact ⟨_, rfl, hz2, HB2.out, HW2.out⟩

/-- Block B is the box of a timestamp. -/
def Pt.Bx (w : World) (B : Nat) (s n : Int) : Prop := w.heap[B]? = some (.cells #[.int .i64 s, .int .i64 n] 33 (0, 0))
theorem Pt.Bx.lt {w : World} {B : Nat} {s n : Int} (h : Bx w B s n) : B < w.heap.size := (two_cells h).2.2.2.2
theorem Pt.Bx.below {w w' : World} {B D : Nat} {s n : Int} (h : Bx w B s n) (hb : Below D w w') (hB : B < D) : Bx w' B s n := (hb.block B hB).trans h
theorem Pt.bx_new (w : World) (s n : Int) : Bx (w.alloc (.cells #[.int .i64 s, .int .i64 n] 33)) w.heap.size s n := heap_alloc_new w _
theorem Pt.size_alloc (w : World) (o : Obj) : (w.alloc o).heap.size = w.heap.size + 1 := by simp

end Go.Proofs.Ytiecbpecpoojkaa
