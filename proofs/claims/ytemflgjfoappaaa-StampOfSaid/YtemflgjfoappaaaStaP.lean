/- Contracts of layer 3: Parse. -/
import Derived.Test.YtemflgjfoappaaaStaT
import Derived.Test.YtemflgjfoappaaaShelf
namespace Go.Proofs.Ytemflgjfoappaaa
open Go.RowKit Fx St

theorem index_any (c : UInt8) (w : World) :
    Calls Try.prog 43 #[.string ⟨#[48, 49, 50, 51, 52, 53, 54, 55, 56, 57, 97, 98, 99, 100, 101, 102]⟩, .int .u8 (c.toNat : Int)] w fun e w' => e = .returned (.int .i64 (unhx c.toNat)) ∧ w = w' := by
  refine (Try.strings_IndexByte _ _ _).mono ?_
  rintro e w' ⟨rfl, rfl⟩
  refine ⟨ret1 ?_, rfl⟩
  rw [← index_unhx]
  congr 1
  simp

theorem ret_pe {n e n' e' : Int} (h : n = n') (h' : e = e') : Ending.returned (.tuple #[.int .u64 n, .int .i64 e]) = .returned (.tuple #[.int .u64 n', .int .i64 e']) := by rw [h, h']

set_option maxRecDepth 100000 in
theorem parse_any (s : ByteArray) (w : World) (hs : s.size ≤ 9223372036854775807) :
    Calls Try.prog 31 #[.string s] w fun e w' => e = .returned (.tuple #[.int .u64 (pV (bys s)), .int .i64 (pE (bys s))]) ∧ w = w' := by
  by_cases h17 : s.size = 17
  · have hs8 : 8 < s.size := by omega
    by_cases h46 : s[8] = 46
    · have g8 : (bys s).getD 8 0 = 46 := by rw [bytes_getD s 8 hs8, h46]; rfl
      have hl : (bys s).length = 17 := by rw [bytes_len]; exact h17
      have h46' : ((s[8].toNat : Int) != 46) = false := by rw [h46]; rfl
      have h17' : ((s.size : Int) != 17) = false := by rw [h17]; rfl
      have h17'' : ¬ s.size < 17 := by omega
      have H17 := Lib.hid h17
      have G8 := Lib.hid g8
      have HL := Lib.hid hl
      clear h17 h46 g8 hl
      go_enter Try.func31, Try.ntmps31
      go_wp2_with fail

      go_loop [4, 17] (fun n i => ∃ (k : Nat) (V : Int), k ≤ s.size ∧ i = .int .i64 k ∧ n = .int .u64 V ∧ Hid (V = pacc (bys s) k) ∧ Hid (POk (bys s) k)) (fun _ i => s.size - (intOf i).toNat)
      case atStart => exact ⟨0, 0, by omega, rfl, rfl, Lib.hid rfl, Lib.hid (fun i hi => absurd hi (by omega))⟩
      case round =>
        obtain ⟨k, V, hk, rfl, rfl, HV, HP⟩ := hrel
        by_cases hlt : k < s.size
        · have hk17 : k < 17 := by rw [← H17.out]; exact hlt
          by_cases h8 : k = 8
          · subst h8
            go_wp2_with fail
            go_round
            case rel => exact ⟨9, V, by omega, rfl, rfl, HV, Lib.hid (HP.out.next (.inl rfl))⟩
            case measure => simp [intOf]; omega
          · have h8' : ((k : Int) == 8) = false := by simp; omega
            have hgd := bytes_getD s k hlt
            by_cases hd : unhx s[k].toNat < 0
            · have hg : ¬ Hexy (bys s) := fun h => by
                have := h.2.2 k hk17 h8
                rw [hgd] at this; omega
              obtain ⟨hE, hV⟩ := good_no hg
              have HE' := Lib.hid hE
              have HV' := Lib.hid hV
              clear hE hV hg hgd
              go_wp2_with (go_at_call 43; refine (index_any s[k] _).mono ?_; rintro e w' ⟨rfl, rfl⟩)
              go_ret2
              exact ⟨ret_pe HV'.out.symm HE'.out.symm, rfl⟩
            · have hd0 : 0 ≤ unhx s[k].toNat := by omega
              have hd1 := unhx_le s[k].toNat
              obtain ⟨st, st', v0, v1⟩ := pacc_step hk17 h8 HP.out (by rw [hgd]; exact hd0)
              rw [hgd, ← HV.out] at st
              rw [← HV.out] at v0 v1
              rw [show IntKind.u64.wrap (V * 16) = V * 16 from by rw [IntKind.wrap_u64]; omega] at st
              have HN : Hid (POk (bys s) (k + 1)) := Lib.hid (HP.out.next (.inr (by rw [hgd]; exact hd0)))
              obtain ⟨V', hV'⟩ : ∃ V', pacc (bys s) (k + 1) = V' := ⟨_, rfl⟩
              rw [hV'] at st
              have HV' := Lib.hid hV'.symm
              clear hgd st' hV'
              go_wp2_with (go_at_call 43; refine (index_any s[k] _).mono ?_; rintro e w' ⟨rfl, rfl⟩)
              go_round
              case rel => exact ⟨k + 1, _, by omega, by go_num, rfl, HV', HN⟩
              case measure => simp [intOf]; omega
        · have hk17 : k = 17 := by have := H17.out; omega
          have HE : Hid (pE (bys s) = 0 ∧ pV (bys s) = V) := Lib.hid (by
            have hp := HP.out
            have hv := HV.out
            rw [hk17] at hp hv
            have := good_yes (L := bys s) ⟨HL.out, G8.out, hp⟩
            exact ⟨this.1, this.2.trans hv.symm⟩)
          clear hk17
          go_wp2_with fail
          go_ret2
          exact ⟨ret_pe HE.out.2.symm HE.out.1.symm, rfl⟩
    · have hg : ¬ Hexy (bys s) := fun h => by
        have := h.2.1
        rw [bytes_getD s 8 hs8] at this
        exact h46 (UInt8.toNat_inj.1 (by show s[8].toNat = 46; omega))
      obtain ⟨hE, hV⟩ := good_no hg
      have HE := Lib.hid hE
      have HV := Lib.hid hV
      have h46' : ((s[8].toNat : Int) != 46) = true := by
        simp only [bne_iff_ne, ne_eq]; intro h; exact h46 (UInt8.toNat_inj.1 (by show s[8].toNat = 46; omega))
      clear hE hV hg h46
      go_enter Try.func31, Try.ntmps31
      go_wp2_with fail
      go_ret2
      exact ⟨ret_pe HV.out.symm HE.out.symm, rfl⟩
  · have hg : ¬ Hexy (bys s) := fun h => h17 (by rw [← bytes_len]; exact h.1)
    obtain ⟨hE, hV⟩ := good_no hg
    have HE := Lib.hid hE
    have HV := Lib.hid hV
    have h17' : ((s.size : Int) != 17) = true := by simp; omega
    clear hE hV hg
    go_enter Try.func31, Try.ntmps31
    go_wp2_with fail
    go_ret2
    exact ⟨ret_pe HV.out.symm HE.out.symm, rfl⟩
end Go.Proofs.Ytemflgjfoappaaa
