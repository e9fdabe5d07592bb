/- Contracts of layer 2: Get for all arguments, slices.Equal. -/
import Derived.Test.YtiecbpecpoojkaaWirA
namespace Go.Proofs.Ytiecbpecpoojkaa
open Go.RowKit Wi

theorem BReads.len {w : World} {B : Nat} {A : Option Addr} {n : Nat} {l : List Int} (h : BReads w B A n l) : l.length = n := h.1
theorem BReads.keep {w w' : World} {B : Nat} {A : Option Addr} {n : Nat} {l : List Int} (h : BReads w B A n l) (hk : ∀ p : Addr, p.block < B → w'.cell? p = w.cell? p) : BReads w' B A n l :=
  ⟨h.1, h.2.1, fun hn => by
    obtain ⟨b, off, e, hb, hc⟩ := h.2.2 hn
    exact ⟨b, off, e, hb, fun i hi => (hk _ hb).trans (hc i hi)⟩⟩
theorem BReads.more {w : World} {B B' : Nat} {A : Option Addr} {n : Nat} {l : List Int} (h : BReads w B A n l) (hB : B ≤ B') : BReads w B' A n l :=
  ⟨h.1, h.2.1, fun hn => by
    obtain ⟨b, off, e, hb, hc⟩ := h.2.2 hn
    exact ⟨b, off, e, by omega, hc⟩⟩
theorem BReads.below {w w' : World} {B : Nat} {A : Option Addr} {n : Nat} {l : List Int} (h : BReads w B A n l) (hb : Below B w w') : BReads w' B A n l := h.keep fun _ hp => hb.cell hp
theorem BReads.drewN {w : World} {B : Nat} {A : Option Addr} {n : Nat} {l : List Int} (h : BReads w B A n l) (k : Nat) : BReads (w.drewN k) B A n l := h
theorem BReads.nil {w : World} {B : Nat} {A : Option Addr} : BReads w B A 0 [] := ⟨rfl, fun x hx => by simp at hx, fun h => absurd h (by omega)⟩
theorem BReads.cut {w : World} {B : Nat} {A : Option Addr} {n : Nat} {l : List Int} (h : BReads w B A n l) {k : Nat} (hk : k ≤ n) : BReads w B A k (l.take k) :=
  ⟨by rw [List.length_take, h.1]; omega, h.2.1.take k, fun hp => by
    obtain ⟨b, off, e, hb, hc⟩ := h.2.2 (by omega)
    refine ⟨b, off, e, hb, fun i hi => ?_⟩
    rw [hc i (by omega), List.getD_eq_getElem?_getD, List.getD_eq_getElem?_getD, List.getElem?_take, if_pos hi]⟩

theorem get_any (A : Option Addr) (n c : Nat) (l : List Int) (at_ size : Int) (w : World) (B : Nat) (hr : BReads w B A n l) (hm : n ≤ 9223372036854775807) (a0 : -9223372036854775808 ≤ at_) (a1 : at_ ≤ 9223372036854775807) :
    Calls Try.prog 6 #[.slice A n c, .int .i64 at_, .int .i64 size] w fun e w' => e = .returned (.tuple #[.int .u64 (getV l at_ size), .int .i64 (getE n at_ size)]) ∧ w = w' := by
  have hl := hr.1
  by_cases c1 : size < 1 ∨ 8 < size
  · have he := Lib.hid (show getE n at_ size = 2 from if_pos c1)
    have hv : Hid (getV l at_ size = 0) := Lib.hid (by unfold getV; rw [hl, he.out]; rfl)
    have hd := Lib.hid (decide_eq_false (show ¬(1 ≤ size ∧ size ≤ 8) by omega))
    clear hl c1
    go_enter Try.func6, Try.ntmps6
    go_wp2_with fail
    refine (isSize_any size _).mono ?_
    rintro e w' ⟨rfl, rfl⟩
    rw [hd.out]
    go_wp2_with fail
    go_ret2
    exact ⟨ret_ne (Eq.symm hv.out) (Eq.symm he.out), rfl⟩
  · by_cases c2 : at_ < 0 ∨ (n : Int) - at_ < size
    · have he := Lib.hid (show getE n at_ size = 5 from (if_neg c1).trans (if_pos c2))
      have hv : Hid (getV l at_ size = 0) := Lib.hid (by unfold getV; rw [hl, he.out]; rfl)
      have hd := Lib.hid (decide_eq_true (show 1 ≤ size ∧ size ≤ 8 by omega))
      have k1 : ¬ size < 1 := by omega
      have k2 : ¬ 8 < size := by omega
      clear hl
      by_cases c3 : at_ < 0
      · clear c2
        go_enter Try.func6, Try.ntmps6
        go_wp2_with fail
        refine (isSize_any size _).mono ?_
        rintro e w' ⟨rfl, rfl⟩
        rw [hd.out]
        go_wp2_with fail
        go_ret2
        exact ⟨ret_ne (Eq.symm hv.out) (Eq.symm he.out), rfl⟩
      · have c5 : (n : Int) - at_ < size := by omega
        clear c2
        go_enter Try.func6, Try.ntmps6
        go_wp2_with fail
        refine (isSize_any size _).mono ?_
        rintro e w' ⟨rfl, rfl⟩
        rw [hd.out]
        go_wp2_with fail
        go_ret2
        exact ⟨ret_ne (Eq.symm hv.out) (Eq.symm he.out), rfl⟩
    · have he : getE n at_ size = 0 := (if_neg c1).trans (if_neg c2)
      have hv : getV l at_ size = beVal ((l.drop at_.toNat).take size.toNat) := by unfold getV; rw [hl, he]; rfl
      obtain ⟨b, off, rfl, hb, hc⟩ := hr.2.2 (by omega)
      rw [he, hv]
      obtain ⟨a, rfl⟩ := Int.eq_ofNat_of_zero_le (by omega : 0 ≤ at_)
      obtain ⟨s, rfl⟩ := Int.eq_ofNat_of_zero_le (by omega : 0 ≤ size)
      rw [Int.toNat_natCast, Int.toNat_natCast]
      exact get_ok b off n c l a s w hl hr.2.1 hm hc (by omega) (by omega) (by omega)

theorem take_getD (l : List Int) (k : Nat) (h : k < l.length) : l.take (k + 1) = l.take k ++ [l.getD k 0] := by
  rw [List.take_succ_eq_append_getElem h, List.getD_eq_getElem?_getD, List.getElem?_eq_getElem h]; rfl

end Go.Proofs.Ytiecbpecpoojkaa
