/- Contracts of layer 3: the specification's Parse. -/
import Derived.Test.YtemflgjfoappaaaStaP
namespace Go.Proofs.Ytemflgjfoappaaa
open Go.RowKit Fx St

theorem St.unhx_cases (c : Int) : (48 ≤ c ∧ c ≤ 57 ∧ unhx c = c - 48) ∨ (97 ≤ c ∧ c ≤ 102 ∧ unhx c = c - 97 + 10) ∨ (unhx c = -1 ∧ (c < 48 ∨ (57 < c ∧ c < 97) ∨ 102 < c)) := by
  unfold unhx
  by_cases a : 48 ≤ c ∧ c ≤ 57
  · rw [if_pos a]; omega
  · rw [if_neg a]
    by_cases b : 97 ≤ c ∧ c ≤ 102
    · rw [if_pos b]; omega
    · rw [if_neg b]; omega

set_option maxHeartbeats 1000000 in
set_option maxRecDepth 100000 in
theorem rparse_any (s : ByteArray) (w : World) (hs : s.size ≤ 9223372036854775807) :
    Calls Try.prog 32 #[.string s] w fun e w' => e = .returned (.tuple #[.int .u64 (pV (bys s)), .int .i64 (pE (bys s))]) ∧ w = w' := by
  by_cases h17 : s.size = 17
  · have hs8 : 8 < s.size := by omega
    have hs17 : 17 ≤ s.size := by omega
    have h17' : ((s.size : Int) != 17) = false := by rw [h17]; rfl
    have H17 := Lib.hid h17
    clear h17
    by_cases h46 : s[8] = 46
    · have g8 : (bys s).getD 8 0 = 46 := by rw [bytes_getD s 8 hs8, h46]; rfl
      have hl : (bys s).length = 17 := by rw [bytes_len]; exact H17.out
      have h46' : ((s[8].toNat : Int) != 46) = false := by rw [h46]; rfl
      have G8 := Lib.hid g8
      have HL := Lib.hid hl
      clear h46 g8 hl
      go_enter Try.func32, Try.ntmps32
      go_wp2_with fail
      go_loop [4, 5] (fun n i => ∃ (k : Nat) (V : Int), k ≤ 17 ∧ i = .int .i64 k ∧ n = .int .u64 V ∧ Hid (V = pacc (bys s) k) ∧ Hid (POk (bys s) k)) (fun _ i => 17 - (intOf i).toNat)
      case atStart => exact ⟨0, 0, by omega, rfl, rfl, Lib.hid rfl, Lib.hid (fun i hi => absurd hi (by omega))⟩
      case round =>
        obtain ⟨k, V, hk, rfl, rfl, HV, HP⟩ := hrel
        by_cases hlt : k < 17
        · have hks : k < s.size := by omega
          have hki : (k : Int) < s.size := by omega
          by_cases h8 : k = 8
          · subst h8
            go_wp2_with fail
            go_round
            case rel => exact ⟨9, V, by omega, rfl, rfl, HV, Lib.hid (HP.out.next (.inl rfl))⟩
            case measure => simp [intOf]
          · have h8' : ((k : Int) == 8) = false := by simp; omega
            have hgd := bytes_getD s k hks
            have hc0 : (s[k].toNat : Int) ≤ 255 := by have := s[k].toNat_lt; omega
            obtain ⟨c, hc⟩ : ∃ c : Int, (s[k].toNat : Int) = c := ⟨_, rfl⟩
            rw [hc] at hgd hc0
            have hc1 : 0 ≤ c := by omega
            rcases unhx_cases c with ⟨a, b, e⟩ | ⟨a, b, e⟩ | ⟨e, a⟩
            · obtain ⟨_, st', v0, v1⟩ := pacc_step hlt h8 HP.out (by rw [hgd, e]; omega)
              rw [hgd, e, ← HV.out] at st'
              rw [← HV.out] at v0 v1
              have HN : Hid (POk (bys s) (k + 1)) := Lib.hid (HP.out.next (.inr (by rw [hgd, e]; omega)))
              have HS := Lib.hid st'
              clear hgd st' e
              go_wp2_with fail
              all_goals
                go_round
                case rel => exact ⟨k + 1, _, by omega, by go_num, rfl, HS, HN⟩
                case measure => simp [intOf]; omega
            · obtain ⟨_, st', v0, v1⟩ := pacc_step hlt h8 HP.out (by rw [hgd, e]; omega)
              rw [hgd, e, ← HV.out] at st'
              rw [← HV.out] at v0 v1
              have HN : Hid (POk (bys s) (k + 1)) := Lib.hid (HP.out.next (.inr (by rw [hgd, e]; omega)))
              have HS : Hid (V * 16 + (c - 97) + 10 = pacc (bys s) (k + 1)) := Lib.hid (by omega)
              have d1 : decide (c ≤ 57) = false := decide_eq_false (by omega)
              clear hgd st' e
              go_wp2_with fail
              all_goals
                go_round
                case rel => exact ⟨k + 1, _, by omega, by go_num, rfl, HS, HN⟩
                case measure => simp [intOf]; omega
            · have hg : ¬ Hexy (bys s) := fun h => by
                have := h.2.2 k hlt h8
                rw [hgd, e] at this; omega
              obtain ⟨hE, hV⟩ := good_no hg
              have HE' := Lib.hid hE
              have HV' := Lib.hid hV
              clear hE hV hg hgd e
              rcases a with a | ⟨a, a'⟩ | a
              · have d1 : decide (48 ≤ c) = false := decide_eq_false (by omega)
                have d2 : decide (97 ≤ c) = false := decide_eq_false (by omega)
                go_wp2_with fail
                all_goals (go_ret2; exact ⟨ret_pe HV'.out.symm HE'.out.symm, rfl⟩)
              · have d1 : decide (c ≤ 57) = false := decide_eq_false (by omega)
                have d2 : decide (97 ≤ c) = false := decide_eq_false (by omega)
                go_wp2_with fail
                all_goals (go_ret2; exact ⟨ret_pe HV'.out.symm HE'.out.symm, rfl⟩)
              · have d1 : decide (c ≤ 57) = false := decide_eq_false (by omega)
                have d2 : decide (c ≤ 102) = false := decide_eq_false (by omega)
                go_wp2_with fail
                all_goals (go_ret2; exact ⟨ret_pe HV'.out.symm HE'.out.symm, rfl⟩)
        · obtain rfl : k = 17 := by omega
          have HE : Hid (pE (bys s) = 0 ∧ pV (bys s) = V) := Lib.hid (by
            have this := good_yes (L := bys s) ⟨HL.out, G8.out, HP.out⟩
            exact ⟨this.1, this.2.trans HV.out.symm⟩)
          go_wp2_with fail
          go_ret2
          exact ⟨ret_pe HE.out.2.symm HE.out.1.symm, rfl⟩
    · have hg : ¬ Hexy (bys s) := fun h => by
        have := h.2.1
        rw [bytes_getD s 8 hs8] at this
        exact h46 (UInt8.toNat_inj.1 (by show s[8].toNat = 46; omega))
      obtain ⟨hE, hV⟩ := good_no hg
      have HE := Lib.hid hE
      have HV := Lib.hid hV
      have h46' : ((s[8].toNat : Int) != 46) = true := by
        simp only [bne_iff_ne, ne_eq]; intro h; exact h46 (UInt8.toNat_inj.1 (by show s[8].toNat = 46; omega))
      clear hE hV hg h46
      go_enter Try.func32, Try.ntmps32
      go_wp2_with fail
      go_ret2
      exact ⟨ret_pe HV.out.symm HE.out.symm, rfl⟩
  · have hg : ¬ Hexy (bys s) := fun h => h17 (by rw [← bytes_len]; exact h.1)
    obtain ⟨hE, hV⟩ := good_no hg
    have HE := Lib.hid hE
    have HV := Lib.hid hV
    have h17' : ((s.size : Int) != 17) = true := by simp; omega
    clear hE hV hg
    go_enter Try.func32, Try.ntmps32
    go_wp2_with fail
    go_ret2
    exact ⟨ret_pe HV.out.symm HE.out.symm, rfl⟩
end Go.Proofs.Ytemflgjfoappaaa
