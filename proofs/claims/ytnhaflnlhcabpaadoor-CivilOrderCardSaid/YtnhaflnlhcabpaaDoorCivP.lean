/- Contracts of layer 5: the program's isDigit, hasForm, the closure of Parse. -/
import Derived.Test.YtnhaflnlhcabpaaDoorCivN
namespace Go.Proofs.YtnhaflnlhcabpaaDoor
open Go.RowKit Fx Cv Pt

theorem isdigit_yes (c : Nat) (w : World) (h0 : 48 ≤ c) (h1 : c ≤ 57) :
    Calls Tryd.prog 50 #[.int .u8 c] w fun e w' => e = .returned (.bool true) ∧ w' = w := by
  have a0 : (48 : Int) ≤ c := by omega
  have a1 : (c : Int) ≤ 57 := by omega
  go_enter Tryd.func50, Tryd.ntmps50
  go_wp2
  go_ret
  exact ⟨rfl, rfl⟩
theorem isdigit_no (c : Nat) (w : World) (h : c < 48 ∨ 57 < c) :
    Calls Tryd.prog 50 #[.int .u8 c] w fun e w' => e = .returned (.bool false) ∧ w' = w := by
  by_cases h0 : 48 ≤ c
  · have a0 : (48 : Int) ≤ c := by omega
    have a1 : ¬ (c : Int) ≤ 57 := by omega
    clear h
    go_enter Tryd.func50, Tryd.ntmps50
    go_wp2
    go_ret
    exact ⟨rfl, rfl⟩
  · have a0 : ¬ (48 : Int) ≤ c := by omega
    clear h
    go_enter Tryd.func50, Tryd.ntmps50
    go_wp2
    go_ret
    exact ⟨rfl, rfl⟩

theorem Cv.drew_on {w wr : World} (h : Hid (∃ n, wr = w.drewN n)) (m : Nat) : ∃ n, wr.drewN m = w.drewN n := by
  obtain ⟨n, rfl⟩ := h.out; exact ⟨_, World.drewN_drewN _ _ _⟩
theorem hasform_len (x : ByteArray) (w : World) (h : x.size ≠ 30) :
    Calls Tryd.prog 41 #[.string x] w fun e w' => e = .returned (.bool (formB x)) ∧ ∃ n, w' = w.drewN n := by
  have HF : Hid (formB x = false) := Lib.hid (by cases hf : formB x; rfl; exact absurd (form_iff.1 hf).1 h)
  have h' : ¬ (x.size : Int) = 30 := by omega
  rw [HF.out]
  clear h
  go_enter Tryd.func41, Tryd.ntmps41
  go_wp2_with fail
  go_ret
  exact ⟨rfl, 0, rfl⟩

set_option maxRecDepth 100000 in
set_option maxHeartbeats 1000000 in
theorem hasform_30 (x : ByteArray) (w : World) (h : x.size = 30) :
    Calls Tryd.prog 41 #[.string x] w fun e w' => e = .returned (.bool (formB x)) ∧ ∃ n, w' = w.drewN n := by
  have h' : (x.size : Int) = 30 := by omega
  go_enter Tryd.func41, Tryd.ntmps41
  go_wp2_with fail
  go_loopw [7] (fun i wr => ∃ k : Nat, k ≤ 30 ∧ i = .int .i64 k ∧ Hid (∀ j, j < k → okB (fmB.data.toList.getD j 0).toNat (x.data.toList.getD j 0).toNat = true) ∧ Hid (∃ n, wr = w.drewN n)) (fun i _ => 30 - (intOf i).toNat)
  case atStart => exact ⟨0, by omega, rfl, Lib.hid (fun j hj => by omega), Lib.hid ⟨0, rfl⟩⟩
  case round =>
    obtain ⟨k, hk, rfl, HP, HW⟩ := hrel
    by_cases hlt : k < 30
    · have hki : (k : Int) < 30 := by omega
      have hkx : k < x.size := by omega
      have hkf : k < 30 := hlt
      obtain ⟨c, hc⟩ : ∃ c : Nat, x[k].toNat = c := ⟨_, rfl⟩
      obtain ⟨f, hf⟩ : ∃ f : Nat, ((⟨#[48, 48, 48, 48, 45, 48, 48, 45, 48, 48, 84, 48, 48, 58, 48, 48, 58, 48, 48, 46, 48, 48, 48, 48, 48, 48, 48, 48, 48, 90]⟩ : ByteArray)[k]'hlt).toNat = f := ⟨_, rfl⟩
      by_cases hf48 : f = 48
      · subst hf48
        by_cases hcd : 48 ≤ c ∧ c ≤ 57
        · have HPN := Lib.hid (ok_next HP.out hkx (hlt : k < fmB.size) (show okB (fmB[k]'hlt).toNat x[k].toNat = true by
            rw [hc, show (fmB[k]'hlt).toNat = 48 from hf]; simp [okB]; omega))
          have HC := Lib.hid hcd
          clear hcd
          go_wp2_with fail
          go_quiet ((go_at_call 50; exact Calls.quiet_of_same (isdigit_yes c _ HC.out.1 HC.out.2)))
          go_wp2_with fail
          go_roundw
          case rel => exact ⟨k + 1, by omega, by go_num, HPN, Lib.hid (drew_on HW _)⟩
          case measure => simp [intOf]; omega
        · have hcd' : c < 48 ∨ 57 < c := by omega
          have HE : Hid (formB x = false) := Lib.hid (by
            cases hfb : formB x
            · rfl
            · have hj := (form_iff.1 hfb).2 k hlt
              rw [getD_at x k hkx, getD_at fmB k hlt, hc, show (fmB[k]'hlt).toNat = 48 from hf] at hj
              simp [okB] at hj; omega)
          have HC := Lib.hid hcd'
          clear hcd hcd'
          go_wp2_with fail
          go_quiet ((go_at_call 50; exact Calls.quiet_of_same (isdigit_no c _ HC.out)))
          go_wp2_with fail
          go_ret
          exact ⟨by rw [HE.out]; rfl, drew_on HW _⟩
      · have g0 : ¬ (f : Int) = 48 := by omega
        have g1 : decide ((f : Int) = 48) = false := decide_eq_false g0
        have g2 : ((f : Int) == 48) = false := by simpa using g0
        have g5 : ((f : Int) != 48) = true := by simp [bne, g2]
        by_cases hcf : c = f
        · subst hcf
          have HPN := Lib.hid (ok_next HP.out hkx (hlt : k < fmB.size) (show okB (fmB[k]'hlt).toNat x[k].toNat = true by
            rw [hc, show (fmB[k]'hlt).toNat = c from hf]; simp [okB, hf48]))
          go_wp2_with fail
          go_quiet (fail)
          go_wp2_with fail
          go_roundw
          case rel => exact ⟨k + 1, by omega, by go_num, HPN, Lib.hid (drew_on HW _)⟩
          case measure => simp [intOf]; omega
        · have HE : Hid (formB x = false) := Lib.hid (by
            cases hfb : formB x
            · rfl
            · have hj := (form_iff.1 hfb).2 k hlt
              rw [getD_at x k hkx, getD_at fmB k hlt, hc, show (fmB[k]'hlt).toNat = f from hf] at hj
              simp [okB, hf48] at hj; omega)
          have k0 : ¬ (c : Int) = f := by omega
          have k1 : decide ((c : Int) = f) = false := decide_eq_false k0
          have k2 : ((c : Int) == f) = false := by simpa using k0
          have k5 : ((c : Int) != f) = true := by simp [bne, k2]
          go_wp2_with fail
          go_quiet (fail)
          clear k0 k1 k2 k5
          go_wp2_with fail
          go_ret
          exact ⟨by rw [HE.out]; rfl, drew_on HW _⟩
    · obtain rfl : k = 30 := by omega
      have HE := Lib.hid (form_iff.2 ⟨h, HP.out⟩)
      go_wp2_with fail
      go_ret
      exact ⟨by rw [HE.out]; rfl, HW.out⟩
theorem hasform_any (x : ByteArray) (w : World) :
    Calls Tryd.prog 41 #[.string x] w fun e w' => e = .returned (.bool (formB x)) ∧ ∃ n, w' = w.drewN n := by
  by_cases h : x.size = 30
  · exact hasform_30 x w h
  · exact hasform_len x w h

theorem Cv.dec_from : ∀ (l : List UInt8) (acc : Nat), Digs l → Lib.decFrom acc l = some (dval acc l) := by
  intro l
  induction l with
  | nil => intro acc _; rfl
  | cons c l ih =>
    intro acc hd
    have hc := hd c (by simp)
    unfold Lib.decFrom
    rw [show Lib.digitVal c = some (c.toNat - 48) from if_pos hc]
    exact ih _ (fun x hx => hd x (by simp [hx]))
theorem Cv.atoi_num {l : List UInt8} (h0 : l ≠ []) (hd : Digs l) : Lib.atoi l = some (dval 0 l : Int) := by
  rcases l with _ | ⟨c, r⟩
  · exact absurd rfl h0
  · have hc := hd c (by simp)
    have c1 : (c == 45) = false := by
      cases h : c == 45
      · rfl
      · have e : c = 45 := by simpa using h
        subst e; exact absurd hc.1 (by decide)
    have c2 : (c == 43) = false := by
      cases h : c == 43
      · rfl
      · have e : c = 43 := by simpa using h
        subst e; exact absurd hc.1 (by decide)
    unfold Lib.atoi
    simp only [c1, c2, Bool.false_eq_true, if_false]
    unfold Lib.decNat
    simp only [List.isEmpty_cons, Bool.false_eq_true, if_false]
    rw [dec_from _ 0 hd]; rfl

theorem Cv.below_bytes (w : World) (e : TypeId) (t : ByteArray) : Below w.heap.size w (Lib.bytesWorld w e t) := by
  refine ⟨rfl, rfl, rfl, ?_, fun i hi => Lib.bytesWorld_at_old w e t i hi⟩
  rw [Lib.bytesWorld_size]; omega
/-- Block G holds a string. -/
def Cv.SBox (w : World) (G : Nat) (x : ByteArray) : Prop := w.heap[G]? = some (.cells #[.string x] 9 (0, 0))
theorem Cv.SBox.lt {w : World} {G : Nat} {x : ByteArray} (h : SBox w G x) : G < w.heap.size := by
  rcases Nat.lt_or_ge G w.heap.size with hlt | hge
  · exact hlt
  · unfold SBox at h; rw [Array.getElem?_eq_none hge] at h; cases h
theorem Cv.SBox.cell {w : World} {G : Nat} {x : ByteArray} (h : SBox w G x) : w.cell? ⟨G, 0, none⟩ = some (.string x) := by
  unfold SBox at h; simp [World.cell?, h]
theorem Cv.SBox.thaw {w : World} {G : Nat} {x : ByteArray} (h : SBox w G x) : w.frozen? ⟨G, 0, none⟩ = false := by
  unfold SBox at h; simp [World.frozen?, h]
theorem Cv.SBox.set {w : World} {G : Nat} {x : ByteArray} (h : SBox w G x) (y : ByteArray) : SBox (w.setCell ⟨G, 0, none⟩ (.string y)) G y := by
  unfold SBox at *; simp [World.setCell, Array.getElem?_modify, h]
theorem Cv.SBox.other {w : World} {G C i : Nat} {x : ByteArray} (h : SBox w G x) (hne : G ≠ C) (v : Value) : SBox (w.setCell ⟨C, i, none⟩ v) G x :=
  (Below.heap_setCell w ⟨C, i, none⟩ v G (fun e => hne (by rw [e]))).trans h
theorem Cv.SBox.below {w w' : World} {G D : Nat} {x : ByteArray} (h : SBox w G x) (hb : Below D w w') (hG : G < D) : SBox w' G x := (hb.block G hG).trans h
theorem Cv.SBox.alloc {w : World} {G : Nat} {x : ByteArray} (h : SBox w G x) (o : Obj) : SBox (w.alloc o) G x := (Below.heap_alloc _ _ _ h.lt).trans h

set_option maxRecDepth 100000 in
theorem pnext_any (x : ByteArray) (a k b V G : Nat) (w : World) (hx : x.size = 30) (hk : a + k = b) (k1 : 1 ≤ k) (k9 : k ≤ 9) (hb : b ≤ 29) (hG : SBox w G (x.extract a 30))
    (hd : Digs (x.extract a b).data.toList) (hv : dval 0 (x.extract a b).data.toList = V) :
    Calls Tryd.prog 42 #[.int .i64 k, .pointer (some ⟨G, 0, none⟩)] w fun e w' => e = .returned (.int .i64 V) ∧ ∃ w1, Below w.heap.size w w1 ∧ w' = w1.setCell ⟨G, 0, none⟩ (.string (x.extract (b + 1) 30)) := by
  obtain ⟨y, hy⟩ : ∃ y, x.extract a 30 = y := ⟨_, rfl⟩
  have hys : y.size = 30 - a := by rw [← hy, ByteArray.size_extract]; omega
  obtain ⟨p, hp⟩ : ∃ p, x.extract a b = p := ⟨_, rfl⟩
  obtain ⟨r, hr⟩ : ∃ r, x.extract (b + 1) 30 = r := ⟨_, rfl⟩
  have hps : p.size = k := by rw [← hp, ByteArray.size_extract]; omega
  have hp2 : y.extract 0 k = p := by rw [← hy, ← hp, ByteArray.extract_extract]; congr 1; omega
  have hr2 : y.extract (k + 1) y.size = r := by rw [hys, ← hy, ← hr, ByteArray.extract_extract]; congr 1 <;> omega
  rw [hp] at hd hv
  rw [hy] at hG
  rw [hr]
  have hne : p.data.toList ≠ [] := by
    intro h0
    have := congrArg List.length h0
    rw [Array.length_toList] at this
    have e : p.data.size = p.size := rfl
    rw [e, hps] at this
    simp at this; omega
  have HA := Lib.hid ((atoi_num hne hd).trans (by rw [hv]))
  have c0 := hG.cell
  have HG := Lib.hid hG
  have hlt := hG.lt
  have hk30 : k + 1 ≤ y.size := by omega
  have hy30 : y.size ≤ 30 := by omega
  clear hne hd hv hx hk hb hG hy hp hr hys
  go_enter Tryd.func42, Tryd.ntmps42
  go_wp2_with fail
  refine (Tryd.strconv_Atoi p V (by omega) HA.out w).mono ?_
  rintro e w1 ⟨rfl, t, hw1⟩
  have hb1 := below_bytes w 5 t
  rw [← hw1] at hb1
  have G1 := HG.out.below hb1 hlt
  have d0 := G1.cell
  have f0 := G1.thaw
  have HB := Lib.hid hb1
  clear hw1 hb1 G1 c0
  go_wp2_with fail
  go_ret
  exact ⟨rfl, w1, HB.out, rfl⟩
end Go.Proofs.YtnhaflnlhcabpaaDoor
