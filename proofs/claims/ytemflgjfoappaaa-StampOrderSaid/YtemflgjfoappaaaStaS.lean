/- Contracts of layer 3: texts. -/
import Derived.Test.YtemflgjfoappaaaStaE
import Derived.Test.YtemflgjfoappaaaStaN
import Derived.WalkSpells
import Derived.WalkLawsBesides
import Derived.OwnWalk
import Derived.Deep.QuietTactic
import Derived.BigQuiet
import Derived.BigGuardPart
namespace Go.Proofs.Ytemflgjfoappaaa
open Go.RowKit Fx St

theorem St.info_u8 : (Try.prog.info? 5).map (fun i => (i.zero, i.size, i.bytes)) = some (some (.int .u8 0), 1, 1) := by kernel_rfl

/-- Block g is just these bytes. -/
def St.TBlk (w : World) (g : Nat) (l : List Int) : Prop := w.heap[g]? = some (.cells (l.map (Value.int .u8)).toArray 5 (0, 0))
theorem St.TBlk.lt {w : World} {g : Nat} {l : List Int} (h : TBlk w g l) : g < w.heap.size := by
  rcases Nat.lt_or_ge g w.heap.size with hlt | hge
  · exact hlt
  · unfold TBlk at h; rw [Array.getElem?_eq_none hge] at h; cases h
theorem St.TBlk.cell {w : World} {g : Nat} {l : List Int} (h : TBlk w g l) {i : Nat} (hi : i < l.length) : w.cell? ⟨g, i, none⟩ = some (.int .u8 (l.getD i 0)) := by
  unfold TBlk at h
  simp [World.cell?, h, hi]
theorem St.TBlk.frozen {w : World} {g : Nat} {l : List Int} (h : TBlk w g l) (i : Nat) : w.frozen? ⟨g, i, none⟩ = false := by
  unfold TBlk at h
  simp [World.frozen?, h]
theorem St.TBlk.set {w : World} {g : Nat} {l : List Int} (h : TBlk w g l) (i : Nat) (x : Int) : TBlk (w.setCell ⟨g, i, none⟩ (.int .u8 x)) g (l.set i x) := by
  unfold TBlk at h ⊢
  simp [World.setCell, Array.getElem?_modify, h]

theorem hex_index (d : Nat) (h : d < 16) (w : World) : (Instr.index 9 (.string ⟨#[48, 49, 50, 51, 52, 53, 54, 55, 56, 57, 97, 98, 99, 100, 101, 102]⟩) (.int .u64 (d : Int))).run Try.prog w = .ok (.int .u8 (hx d)) w := by
  refine below16 (P := fun d => (Instr.index 9 (.string ⟨#[48, 49, 50, 51, 52, 53, 54, 55, 56, 57, 97, 98, 99, 100, 101, 102]⟩) (.int .u64 (d : Int))).run Try.prog w = .ok (.int .u8 (hx d)) w) d h ?_ ?_ ?_ ?_ ?_ ?_ ?_ ?_ ?_ ?_ ?_ ?_ ?_ ?_ ?_ ?_ <;> kernel_rfl

set_option maxRecDepth 100000 in
theorem text_any (s : Int) (w : World) (h0 : 0 ≤ s) (h1 : s ≤ 18446744073709551615) :
    Calls Try.prog 33 #[.int .u64 s] w fun e w' => e = .returned (.string (strOfNums (txL s))) ∧ Below w.heap.size w w' := by
  have hmk : ∀ w : World, (Instr.makeSlice 52 (.int .i64 17) (.int .i64 17)).run Try.prog w = .ok (.slice (some ⟨w.heap.size, 0, none⟩) 17 17) (w.alloc (.cells (Array.replicate 17 (.int .u8 0)) 5)) := fun _ => by kernel_rfl
  have hb0 : TBlk (w.alloc (.cells (Array.replicate 17 (.int .u8 0)) 5)) w.heap.size (txK s 0) := by
    unfold TBlk; rw [txK_zero]; exact heap_alloc_new w _
  have hw0 : Below w.heap.size w (w.alloc (.cells (Array.replicate 17 (.int .u8 0)) 5)) := (Below.refl _ _).alloc (Nat.le_refl _) _
  have HB0 := Lib.hid hb0
  have HW0 := Lib.hid hw0
  clear hb0 hw0
  go_enter Try.func33, Try.ntmps33
  go_wp2_with fail
  go_loopw [0, 6] (fun v i wr => ∃ (k : Nat) (V : Int), k ≤ 17 ∧ i = .int .i64 k ∧ v = .int .u64 V ∧ Hid (V = rem s k) ∧ Hid (TBlk wr w.heap.size (txK s k)) ∧ Hid (Below w.heap.size w wr)) (fun _ i _ => 17 - (intOf i).toNat)
  case atStart => exact ⟨0, s, by omega, rfl, rfl, Lib.hid (rem_zero h0 h1).symm, HB0, HW0⟩
  case round =>
    clear HB0 HW0
    obtain ⟨k, V, hk, rfl, rfl, hV, HB, HW⟩ := hrel
    by_cases hlt : k < 17
    · obtain ⟨x, hxx⟩ : ∃ x, (txK s k).getD k 0 = x := ⟨_, rfl⟩
      have hc := HB.out.cell (i := k) (by rw [txK_len]; exact hlt)
      have hf := HB.out.frozen k
      rw [hxx] at hc
      have hs := HB.out.set k (tx s k)
      rw [txK_set] at hs
      have n0 : (0 : Int) ≤ k := by omega
      have n1 : (k : Int) < 17 := by omega
      have vb := rem_bounds s k
      rw [← hV.out] at vb
      obtain ⟨vb0, vb1⟩ := vb
      by_cases h8 : k = 8
      · subst h8
        have ht : tx s 8 = 46 := rfl
        rw [ht] at hs
        have HS := Lib.hid hs
        have hw' : Hid (Below w.heap.size w (wr.setCell ⟨w.heap.size, 8, none⟩ (.int .u8 46))) := Lib.hid (HW.out.setCell (Nat.le_refl _) _)
        clear hs ht hxx
        go_wp2_with fail
        go_roundw
        case rel => exact ⟨9, V, by omega, rfl, rfl, Lib.hid (hV.out.trans (rem_point s)), HS, hw'⟩
        case measure => simp [intOf]
      · have h8' : ((k : Int) == 8) = false := by simp; omega
        have hdg := rem_digit (s := s) (k := k) hlt h0 h1
        have nb := nib_bounds s (ndg k)
        obtain ⟨d, hd⟩ : ∃ d : Nat, nib s (ndg k) = (d : Int) := ⟨(nib s (ndg k)).toNat, by omega⟩
        rw [← hV.out, hd] at hdg
        have hidx := fun w => hex_index d (by omega) w
        have ht : tx s k = hx d := by unfold tx; rw [if_neg h8, hd]
        rw [ht] at hs
        obtain ⟨c, hc'⟩ : ∃ c, hx d = c := ⟨_, rfl⟩
        rw [hc'] at hs hidx
        have HS := Lib.hid hs
        have hw' : Hid (Below w.heap.size w (wr.setCell ⟨w.heap.size, k, none⟩ (.int .u8 c))) := Lib.hid (HW.out.setCell (Nat.le_refl _) _)
        have hn := rem_next (s := s) (k := k) hlt h8
        rw [← hV.out] at hn
        have HN := Lib.hid hn
        clear hs ht hxx hn hd hc' nb
        go_wp2_with fail
        go_roundw
        case rel => exact ⟨k + 1, _, by omega, by go_num, rfl, Lib.hid (by rw [← HN.out, IntKind.wrap_u64]), HS, hw'⟩
        case measure => simp [intOf]; omega
    · obtain rfl : k = 17 := by omega
      have hT := HB.out
      rw [txK_all] at hT
      have hcv := run_convert_bytes_arg (P := Try.prog) wr 52 5 Try.underlying52 Try.underlying5 w.heap.size 0 17 17 (txL s) (txL_len s) (fun i hi => by rw [Nat.zero_add]; exact hT.cell (by rw [txL_len]; exact hi)) 9 Try.underlying9
      clear hT
      go_wp2_with fail
      go_ret
      exact ⟨rfl, HW.out⟩
end Go.Proofs.Ytemflgjfoappaaa
