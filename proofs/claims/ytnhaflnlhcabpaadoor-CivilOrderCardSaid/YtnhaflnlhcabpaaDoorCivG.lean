/- Contracts of layer 5: number of the specification. -/
import Derived.Test.YtnhaflnlhcabpaaDoorCivF
namespace Go.Proofs.YtnhaflnlhcabpaaDoor
open Go.RowKit Fx Cv Pt

theorem Cv.dval_lt (l : List UInt8) (hd : Digs l) : dval 0 l < 10 ^ l.length := by
  suffices h : ∀ (l : List UInt8) (acc : Nat), Digs l → dval acc l < (acc + 1) * 10 ^ l.length by simpa using h l 0 hd
  intro l
  induction l with
  | nil => intro acc _; show acc < (acc + 1) * 1; omega
  | cons c l ih =>
    intro acc hd
    have hc := hd c (by simp)
    have := ih (acc * 10 + (c.toNat - 48)) (fun x hx => hd x (by simp [hx]))
    refine Nat.lt_of_lt_of_le this ?_
    rw [List.length_cons, Nat.pow_succ, Nat.mul_comm (10 ^ l.length) 10, ← Nat.mul_assoc]
    exact Nat.mul_le_mul_right _ (by omega)
theorem Cv.digs_take {l : List UInt8} (h : Digs l) (i : Nat) : Digs (l.take i) := fun c hc => h c (List.mem_of_mem_take hc)

set_option maxRecDepth 100000 in
theorem rnum_any (x : ByteArray) (w : World) (hs : x.size ≤ 9) (hd : Digs x.data.toList) :
    Calls Tryd.prog 44 #[.string x] w fun e w' => e = .returned (.int .i64 (dval 0 x.data.toList)) ∧ w' = w := by
  have hl : x.data.toList.length = x.size := Array.length_toList
  have HL := Lib.hid hl
  have HD := Lib.hid hd
  clear hd hl
  go_enter Tryd.func44, Tryd.ntmps44
  go_wp2_with fail
  go_loop [3, 4] (fun n i => ∃ (k V : Nat), k ≤ x.size ∧ i = .int .i64 k ∧ n = .int .i64 V ∧ V < 1000000000 ∧ Hid (V = dval 0 (x.data.toList.take k))) (fun _ i => x.size - (intOf i).toNat)
  case atStart => exact ⟨0, 0, by omega, rfl, rfl, by omega, Lib.hid rfl⟩
  case round =>
    obtain ⟨k, V, hk, rfl, rfl, hV, HV⟩ := hrel
    by_cases hlt : k < x.size
    · have hki : (k : Int) < x.size := by omega
      have hkl : k < x.data.toList.length := by rw [HL.out]; exact hlt
      have hxk : x.data.toList[k] = x[k] := rfl
      obtain ⟨c, hc⟩ : ∃ c : Nat, x[k].toNat = c := ⟨_, rfl⟩
      have hcd := HD.out _ (List.getElem_mem hkl)
      rw [hxk, hc] at hcd
      obtain ⟨c0, c1⟩ := hcd
      have e : dval 0 (x.data.toList.take (k + 1)) = V * 10 + (c - 48) := by
        rw [List.take_succ_eq_append_getElem hkl, dval_append, ← HV.out, dval_one, hxk, hc]
      have hlen := dval_lt _ (digs_take HD.out (k + 1))
      rw [e, List.length_take] at hlen
      have hp := Nat.pow_le_pow_right (show 0 < 10 by decide) (show min (k + 1) x.data.toList.length ≤ 9 by omega)
      have hV' : V * 10 + (c - 48) < 1000000000 := by omega
      have HN := Lib.hid e.symm
      have hci : ((x[k].toNat : Nat) : Int) = c := by omega
      clear hlen hp e hc hxk
      go_wp2_with fail
      go_round
      case rel => exact ⟨k + 1, V * 10 + (c - 48), by omega, by go_num, by congr 1; omega, hV', HN⟩
      case measure => simp [intOf]; omega
    · obtain rfl : k = x.size := by omega
      have hv : Hid (V = dval 0 x.data.toList) := Lib.hid (by
        have hv := HV.out
        rw [← HL.out, List.take_length] at hv
        exact hv)
      go_wp2_with fail
      go_ret
      exact ⟨ret1 (by rw [hv.out]), rfl⟩
end Go.Proofs.YtnhaflnlhcabpaaDoor
