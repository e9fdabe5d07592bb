/- Contracts of layer 4: parts of Parse. -/
import Derived.Test.YtemflgjfoappaabDoorPtmV
namespace Go.Proofs.YtemflgjfoappaabDoor
open Go.RowKit Fx Pt Wi

/-! ### The specification's number -/
instance (l : List UInt8) : Decidable (Digs l) := by unfold Digs; exact inferInstance
def Pt.nmB (l : List UInt8) : Bool := decide (l ≠ [] ∧ l.length ≤ 15 ∧ Digs l)
def Pt.nmV (l : List UInt8) : Int := if nmB l = true then (dval 0 l : Int) else 0
theorem Pt.dval_lt (l : List UInt8) (hd : Digs l) : dval 0 l < 10 ^ l.length := by
  suffices h : ∀ (l : List UInt8) (acc : Nat), Digs l → dval acc l < (acc + 1) * 10 ^ l.length by simpa using h l 0 hd
  intro l
  induction l with
  | nil => intro acc _; show acc < (acc + 1) * 1; omega
  | cons c l ih =>
    intro acc hd
    have hc := hd c (by simp)
    have := ih (acc * 10 + (c.toNat - 48)) (fun x hx => hd x (by simp [hx]))
    refine Nat.lt_of_lt_of_le this ?_
    rw [List.length_cons, Nat.pow_succ, Nat.mul_comm (10 ^ l.length) 10, ← Nat.mul_assoc]
    exact Nat.mul_le_mul_right _ (by omega)
theorem Pt.digs_take {l : List UInt8} {i : Nat} (hi : i < l.length) (h : Digs (l.take i)) (hc : 48 ≤ l[i].toNat ∧ l[i].toNat ≤ 57) : Digs (l.take (i + 1)) := by
  rw [List.take_succ_eq_append_getElem hi]
  intro c hc'
  rcases List.mem_append.1 hc' with h' | h'
  · exact h c h'
  · simp at h'; subst h'; exact hc
theorem Pt.nmV_bounds (l : List UInt8) : 0 ≤ nmV l ∧ nmV l ≤ 999999999999999 := by
  unfold nmV
  by_cases h : nmB l = true
  · rw [if_pos h]
    obtain ⟨_, h1, h2⟩ := of_decide_eq_true h
    have a := dval_lt l h2
    have b := Nat.pow_le_pow_right (show 0 < 10 by decide) h1
    omega
  · rw [if_neg h]; omega

set_option maxRecDepth 100000 in
theorem number_any (x : ByteArray) (w : World) (hs : x.size ≤ 9223372036854775807) :
    Calls Tryd.prog 26 #[.string x] w fun e w' => e = .returned (.tuple #[.int .i64 (nmV x.data.toList), .bool (nmB x.data.toList)]) ∧ w = w' := by
  have hl : x.data.toList.length = x.size := Array.length_toList
  by_cases h0 : x.size = 0
  · have hx : x.data.toList = [] := List.eq_nil_of_length_eq_zero (by omega)
    have hB : Hid (nmB x.data.toList = false ∧ nmV x.data.toList = 0) := Lib.hid (by rw [hx]; decide)
    have he : x = ⟨#[]⟩ := by
      apply ByteArray.ext; apply Array.toList_inj.1; rw [hx]
    subst he
    clear hx hl h0
    go_enter Tryd.func26, Tryd.ntmps26
    go_wp2_with fail
    all_goals (go_ret2; exact ⟨ret2 hB.out.2.symm hB.out.1.symm, rfl⟩)
  · have hne : x.data.toList ≠ [] := fun h => h0 (by rw [← hl, h]; rfl)
    have hemp : x.toList.isEmpty = false := by rw [ByteArray.toList_eq]; simpa using hne
    by_cases h15 : 15 < x.size
    · have hB : Hid (nmB x.data.toList = false) := Lib.hid (decide_eq_false (fun h => by omega))
      have hV : Hid (nmV x.data.toList = 0) := Lib.hid (by unfold nmV; rw [hB.out]; rfl)
      clear hl h0
      go_enter Tryd.func26, Tryd.ntmps26
      go_wp2_with fail
      all_goals (go_ret2; exact ⟨ret2 hV.out.symm hB.out.symm, rfl⟩)
    · have h15' : decide (15 < (x.size : Int)) = false := decide_eq_false (by omega)
      have HNE := Lib.hid hne
      have HL := Lib.hid hl
      have hs0 : 0 < x.size := by omega
      clear hne hl h0
      go_enter Tryd.func26, Tryd.ntmps26
      go_wp2_with fail
      go_loop [4, 5] (fun n i => ∃ (k V : Nat), k ≤ x.size ∧ i = .int .i64 k ∧ n = .int .i64 V ∧ V < 1000000000000000 ∧ Hid (V = dval 0 (x.data.toList.take k)) ∧ Hid (Digs (x.data.toList.take k))) (fun _ i => x.size - (intOf i).toNat)
      case atStart => exact ⟨0, 0, by omega, rfl, rfl, by omega, Lib.hid rfl, Lib.hid (fun c hc => by simp at hc)⟩
      case round =>
        obtain ⟨k, V, hk, rfl, rfl, hV, HV, HD⟩ := hrel
        by_cases hlt : k < x.size
        · have hki : (k : Int) < x.size := by omega
          have hkl : k < x.data.toList.length := by rw [HL.out]; exact hlt
          have hxk : x.data.toList[k] = x[k] := rfl
          have hc0 : (x[k].toNat : Int) ≤ 255 := by have := x[k].toNat_lt; omega
          obtain ⟨c, hc⟩ : ∃ c : Nat, x[k].toNat = c := ⟨_, rfl⟩
          by_cases hlo : c < 48
          · have hB : Hid (nmB x.data.toList = false) := Lib.hid (decide_eq_false (fun h => by
              have := h.2.2 _ (List.getElem_mem hkl)
              rw [hxk, hc] at this; omega))
            have hVV : Hid (nmV x.data.toList = 0) := Lib.hid (by unfold nmV; rw [hB.out]; rfl)
            have hlo' : ((x[k].toNat : Nat) : Int) < 48 := by omega
            clear hc
            go_wp2_with fail
            all_goals (go_ret2; exact ⟨ret2 hVV.out.symm hB.out.symm, rfl⟩)
          · have d1 : decide (((x[k].toNat : Nat) : Int) < 48) = false := decide_eq_false (by omega)
            by_cases hhi : 57 < c
            · have hB : Hid (nmB x.data.toList = false) := Lib.hid (decide_eq_false (fun h => by
                have := h.2.2 _ (List.getElem_mem hkl)
                rw [hxk, hc] at this; omega))
              have hVV : Hid (nmV x.data.toList = 0) := Lib.hid (by unfold nmV; rw [hB.out]; rfl)
              have hhi' : 57 < ((x[k].toNat : Nat) : Int) := by omega
              clear hc
              go_wp2_with fail
              all_goals (go_ret2; exact ⟨ret2 hVV.out.symm hB.out.symm, rfl⟩)
            · have d2 : decide (57 < ((x[k].toNat : Nat) : Int)) = false := decide_eq_false (by omega)
              have hD' := digs_take hkl HD.out (by rw [hxk, hc]; omega)
              have e : dval 0 (x.data.toList.take (k + 1)) = V * 10 + (c - 48) := by
                rw [List.take_succ_eq_append_getElem hkl, dval_append, ← HV.out, dval_one, hxk, hc]
              have hlen := dval_lt _ hD'
              rw [e, List.length_take] at hlen
              have hp := Nat.pow_le_pow_right (show 0 < 10 by decide) (show min (k + 1) x.data.toList.length ≤ 15 by omega)
              have hV' : V * 10 + (c - 48) < 1000000000000000 := by omega
              have HN := Lib.hid e.symm
              have HD' := Lib.hid hD'
              have hci : ((x[k].toNat : Nat) : Int) = c := by omega
              clear hlen hp e hD' hc hxk
              go_wp2_with fail
              go_round
              case rel => exact ⟨k + 1, V * 10 + (c - 48), by omega, by go_num, by congr 1; omega, hV', HN, HD'⟩
              case measure => simp [intOf]; omega
        · obtain rfl : k = x.size := by omega
          have hB : Hid (nmB x.data.toList = true ∧ nmV x.data.toList = V) := Lib.hid (by
            have hd := HD.out
            have hv := HV.out
            rw [← HL.out, List.take_length] at hd hv
            have hb : nmB x.data.toList = true := decide_eq_true ⟨HNE.out, by rw [HL.out]; omega, hd⟩
            exact ⟨hb, by unfold nmV; rw [if_pos hb, ← hv]⟩)
          go_wp2_with fail
          go_ret2
          exact ⟨ret2 hB.out.2.symm hB.out.1.symm, rfl⟩
end Go.Proofs.YtemflgjfoappaabDoor
