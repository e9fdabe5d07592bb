/- The walk of WireNobody. -/
import Derived.Test.YtkcllhcinbcgiabWirN
namespace Go.Proofs.Ytkcllhcinbcgiab
open Go.RowKit Wi

theorem prd_zero (w : World) : PRd (w.alloc (.cells #[.slice none 0 0, .int .i64 0] 44)) w.heap.size [] 0 :=
  ⟨none, 0, 0, heap_alloc_new w _, BReads.nil, Nat.le_refl _, by omega, fun _ => rfl⟩

set_option maxRecDepth 100000 in
theorem wireNobody_walk (n : Int) (w : World) :
    Calls Try.prog 5 #[.int .i64 n] w fun e w' => e = .returned (.bool true) ∧ Below w.heap.size w w' := by
  have HP0 := Lib.hid (prd_zero w)
  have hW0 : Below w.heap.size w (w.alloc (.cells #[.slice none 0 0, .int .i64 0] 44)) := (Below.refl _ _).alloc (Nat.le_refl _) _
  go_enter Try.func5, Try.ntmps5
  go_wp2_with fail
  refine (nskip_any n _).mono ?_
  rintro e w' ⟨rfl, rfl⟩
  go_wp2_with fail
  refine (nuint_any n _).mono ?_
  rintro e w' ⟨rfl, rfl⟩
  go_wp2_with fail
  refine (nint_any n _).mono ?_
  rintro e w' ⟨rfl, rfl⟩
  go_wp2_with fail
  refine (nbytes_any n _).mono ?_
  rintro e w1 ⟨A1, c1, rfl, hw1⟩
  have hW1 : Below w.heap.size w w1 := hW0.trans (hw1.mono (by simp))
  have HP1 := Lib.hid (HP0.out.below hw1)
  clear hw1 hW0 HP0
  go_wp2_with fail
  refine (nleft_any _).mono ?_
  rintro e w' ⟨rfl, rfl⟩
  go_wp2_with fail
  refine (nerr_any _).mono ?_
  rintro e w' ⟨rfl, rfl⟩
  go_wp2_with fail
  refine (pleft_any w.heap.size [] 0 _ HP1.out).mono ?_
  rintro e w' ⟨rfl, rfl⟩
  go_wp2_with fail
  refine (perr_any w.heap.size [] 0 _ HP1.out).mono ?_
  rintro e w' ⟨rfl, rfl⟩
  go_wp2_with fail
  refine (pbytes_any w.heap.size [] 0 0 _ HP1.out (by decide)).mono ?_
  rintro e w2 ⟨B, rfl, _, _, hP, hg⟩
  rw [show takeV [] 0 0 = [] from by decide]
  rw [show takeL [] 0 0 = [] from by decide, show takeE [] 0 0 = 0 from by decide] at hP
  have HP2 := Lib.hid hP
  have hW2 : Below w.heap.size w w2 := hW1.grown hg hW1.size (fun k hk => by injection hk with hk; omega)
  clear hP hg hW1 HP1
  go_wp2_with fail
  refine (perr_any w.heap.size [] 0 _ HP2.out).mono ?_
  rintro e w' ⟨rfl, rfl⟩
  have hV : numV [] 0 n = 0 := by
    unfold numV getV; rw [if_pos rfl]; split <;> simp [beVal]
  have hL : numL [] 0 n = [] := by unfold numL; split <;> simp
  have HV := Lib.hid hV
  have HL := Lib.hid hL
  clear hV hL
  by_cases k1 : 1 ≤ n
  · by_cases k2 : n ≤ 8
    · have HE := Lib.hid (show numE [] 0 n = 5 by
        show getE 0 0 n = 5
        unfold getE; rw [if_neg (by omega), if_pos (by right; simp; omega)])
      go_wp2_with fail
      refine (puint_any w.heap.size [] 0 n _ HP2.out).mono ?_
      rintro e w3 ⟨rfl, hP, hg⟩
      rw [HV.out]
      rw [HL.out, HE.out] at hP
      have HP3 := Lib.hid hP
      have hW3 : Below w.heap.size w w3 := hW2.grown hg hW2.size (fun k hk => by injection hk with hk; omega)
      clear hP hg hW2 HP2
      go_wp2_with fail
      refine (perr_any w.heap.size [] 5 _ HP3.out).mono ?_
      rintro e w' ⟨rfl, rfl⟩
      go_wp2_with fail
      refine (pleft_any w.heap.size [] 5 _ HP3.out).mono ?_
      rintro e w' ⟨rfl, rfl⟩
      go_wp2_with fail
      refine (awake2_any _).mono ?_
      rintro e w4 ⟨rfl, hw4⟩
      go_wp2_with fail
      go_ret
      exact ⟨rfl, hW3.trans (hw4.mono hW3.size)⟩
    · have HE := Lib.hid (show numE [] 0 n = 2 by
        show getE 0 0 n = 2
        unfold getE; rw [if_pos (by omega)])
      go_wp2_with fail
      refine (puint_any w.heap.size [] 0 n _ HP2.out).mono ?_
      rintro e w3 ⟨rfl, hP, hg⟩
      rw [HV.out]
      rw [HL.out, HE.out] at hP
      have HP3 := Lib.hid hP
      have hW3 : Below w.heap.size w w3 := hW2.grown hg hW2.size (fun k hk => by injection hk with hk; omega)
      clear hP hg hW2 HP2
      go_wp2_with fail
      refine (perr_any w.heap.size [] 2 _ HP3.out).mono ?_
      rintro e w' ⟨rfl, rfl⟩
      go_wp2_with fail
      refine (pleft_any w.heap.size [] 2 _ HP3.out).mono ?_
      rintro e w' ⟨rfl, rfl⟩
      go_wp2_with fail
      refine (awake2_any _).mono ?_
      rintro e w4 ⟨rfl, hw4⟩
      go_wp2_with fail
      go_ret
      exact ⟨rfl, hW3.trans (hw4.mono hW3.size)⟩
  · have HE := Lib.hid (show numE [] 0 n = 2 by
      show getE 0 0 n = 2
      unfold getE; rw [if_pos (by omega)])
    go_wp2_with fail
    refine (puint_any w.heap.size [] 0 n _ HP2.out).mono ?_
    rintro e w3 ⟨rfl, hP, hg⟩
    rw [HV.out]
    rw [HL.out, HE.out] at hP
    have HP3 := Lib.hid hP
    have hW3 : Below w.heap.size w w3 := hW2.grown hg hW2.size (fun k hk => by injection hk with hk; omega)
    clear hP hg hW2 HP2
    go_wp2_with fail
    refine (perr_any w.heap.size [] 2 _ HP3.out).mono ?_
    rintro e w' ⟨rfl, rfl⟩
    go_wp2_with fail
    refine (pleft_any w.heap.size [] 2 _ HP3.out).mono ?_
    rintro e w' ⟨rfl, rfl⟩
    go_wp2_with fail
    refine (awake2_any _).mono ?_
    rintro e w4 ⟨rfl, hw4⟩
    go_wp2_with fail
    go_ret
    exact ⟨rfl, hW3.trans (hw4.mono hW3.size)⟩
end Go.Proofs.Ytkcllhcinbcgiab
