/- Contracts of layer 6: strings.TrimLeft and Trim of blanks, as this seat has them. -/
import Derived.Test.YtegpajdahanhfaaGreatDoorLeaH
import Derived.Lib.AsciiSet
import Derived.Shelf.Strings.IndexAnyAll
namespace Go.Proofs.YtegpajdahanhfaaGreatDoor
open Go.RowKit Fx Cv Lp

/-- Is it a blank? -/
def Lp.isB (c : UInt8) : Bool := ([32, 9] : List UInt8).contains c
def Lp.trL (l : List UInt8) : List UInt8 := l.dropWhile isB
def Lp.trR (l : List UInt8) : List UInt8 := (l.reverse.dropWhile isB).reverse
def Lp.strSize : Value → Nat
  | .string r => r.size
  | _ => 0
theorem Lp.cons_of (r : ByteArray) (h : 0 < r.size) : r.data.toList = r[0] :: (r.extract 1 r.size).data.toList := by
  have hl : r.data.toList.length = r.size := Array.length_toList
  have e : (r.extract 1 r.size).data.toList = r.data.toList.drop 1 := by
    simp [ByteArray.data_extract, List.extract_eq_take_drop]
    rw [List.take_of_length_le (by rw [List.length_tail, hl]; omega)]
  rw [e]
  have := List.drop_eq_getElem_cons (l := r.data.toList) (i := 0) (by omega)
  rw [List.drop_zero] at this
  exact this
theorem Lp.snoc_of (r : ByteArray) (h : 0 < r.size) : r.data.toList = (r.extract 0 (r.size - 1)).data.toList ++ [r[r.size - 1]'(by omega)] := by
  have hl : r.data.toList.length = r.size := Array.length_toList
  have e : (r.extract 0 (r.size - 1)).data.toList = r.data.toList.take (r.size - 1) := by
    simp [ByteArray.data_extract, List.dropLast_eq_take, hl]
  rw [e]
  have h2 : r.data.toList.take (r.size - 1 + 1) = r.data.toList := List.take_of_length_le (by omega)
  rw [List.take_succ_eq_append_getElem (by omega)] at h2
  exact h2.symm
theorem Lp.mk_eq (r : ByteArray) : (⟨r.data.toList.toArray⟩ : ByteArray) = r := by apply ByteArray.ext; simp

set_option maxRecDepth 100000 in
theorem trimleft_ascii (s : ByteArray) (b : Nat) (w : World) (hc : ∀ x : UInt8, w.cell? ⟨b, x.toNat, none⟩ = some (.bool (isB x))) :
    Calls Tryz.prog 79 #[.string s, .pointer (some ⟨b, 0, none⟩)] w fun e w' => e = .returned (.string ⟨(trL s.data.toList).toArray⟩) ∧ w' = w := by
  have HC := Lib.hid hc
  clear hc
  go_enter Tryz.func79, Tryz.ntmps79
  go_wp2_with fail
  go_loop [0] (fun sv => ∃ r : ByteArray, sv = .string r ∧ Hid (trL r.data.toList = trL s.data.toList)) (fun sv => strSize sv)
  case atStart => exact ⟨s, rfl, Lib.hid rfl⟩
  case round =>
    obtain ⟨r, rfl, HT⟩ := hrel
    by_cases h0 : 0 < r.size
    · have h0i : (0 : Int) < r.size := by omega
      have hcons := Lib.hid (cons_of r h0)
      cases hb : isB r[0]
      · have HF : Hid ((⟨(trL s.data.toList).toArray⟩ : ByteArray) = r) := Lib.hid (by
          rw [← HT.out, hcons.out]
          have : trL (r[0] :: (r.extract 1 r.size).data.toList) = r[0] :: (r.extract 1 r.size).data.toList := by unfold trL; rw [List.dropWhile_cons, hb]; rfl
          rw [this, ← hcons.out, mk_eq])
        have HB := Lib.hid hb
        clear hb
        go_wp2_with fail
        refine (Tryz.asciiSet_contains b r[0] _ _ (HC.out r[0])).mono ?_
        rintro e w' ⟨rfl, hw'⟩; subst w'
        rw [HB.out]
        go_wp2_with fail
        go_ret
        exact ⟨by rw [HF.out]; rfl, rfl⟩
      · obtain ⟨r', hr'⟩ : ∃ r', r.extract 1 r.size = r' := ⟨_, rfl⟩
        have hs' : r'.size < r.size := by rw [← hr', ByteArray.size_extract]; omega
        have HN : Hid (trL r'.data.toList = trL s.data.toList) := Lib.hid (by
          rw [← HT.out, hcons.out, hr']; unfold trL; rw [List.dropWhile_cons, hb]; rfl)
        have HB := Lib.hid hb
        clear hb hcons
        go_wp2_with fail
        refine (Tryz.asciiSet_contains b r[0] _ _ (HC.out r[0])).mono ?_
        rintro e w' ⟨rfl, hw'⟩; subst w'
        rw [HB.out]
        go_wp2_with fail
        go_round
        case rel => exact ⟨r', rfl, HN⟩
        case measure => simpa [strSize] using hs'
    · have hz : r.data.toList = [] := List.length_eq_zero_iff.1 (by rw [show r.data.toList.length = r.size from Array.length_toList]; omega)
      have HF : Hid ((⟨(trL s.data.toList).toArray⟩ : ByteArray) = r) := Lib.hid (by
        rw [← HT.out, hz]; unfold trL; rw [List.dropWhile_nil, ← hz, mk_eq])
      have h0i : ¬ (0 : Int) < r.size := by omega
      have d0 : decide ((0 : Int) < r.size) = false := decide_eq_false h0i
      clear hz
      go_wp2_with fail
      go_ret
      exact ⟨by rw [HF.out]; rfl, rfl⟩

set_option maxRecDepth 100000 in
theorem trimright_ascii (s : ByteArray) (b : Nat) (w : World) (hs : s.size ≤ 9223372036854775807) (hc : ∀ x : UInt8, w.cell? ⟨b, x.toNat, none⟩ = some (.bool (isB x))) :
    Calls Tryz.prog 80 #[.string s, .pointer (some ⟨b, 0, none⟩)] w fun e w' => e = .returned (.string ⟨(trR s.data.toList).toArray⟩) ∧ w' = w := by
  have HC := Lib.hid hc
  clear hc
  go_enter Tryz.func80, Tryz.ntmps80
  go_wp2_with fail
  go_loop [0] (fun sv => ∃ r : ByteArray, sv = .string r ∧ r.size ≤ s.size ∧ Hid (trR r.data.toList = trR s.data.toList)) (fun sv => strSize sv)
  case atStart => exact ⟨s, rfl, by omega, Lib.hid rfl⟩
  case round =>
    obtain ⟨r, rfl, hrs, HT⟩ := hrel
    by_cases h0 : 0 < r.size
    · have h0i : (0 : Int) < r.size := by omega
      obtain ⟨m, hm⟩ : ∃ m : Nat, r.size - 1 = m := ⟨_, rfl⟩
      have hmi : (r.size : Int) - 1 = m := by omega
      have hmr : m < r.size := by omega
      have hsn := snoc_of r h0
      have hsn2 : r.data.toList = (r.extract 0 m).data.toList ++ [r[m]] := by subst hm; exact hsn
      have hcons := Lib.hid hsn2
      clear hsn hsn2
      cases hb : isB r[m]
      · have HF : Hid ((⟨(trR s.data.toList).toArray⟩ : ByteArray) = r) := Lib.hid (by
          rw [← HT.out]
          have : trR r.data.toList = r.data.toList := by
            rw [hcons.out]; unfold trR; rw [List.reverse_append, List.reverse_singleton, List.singleton_append, List.dropWhile_cons, hb]
            simp
          rw [this, mk_eq])
        have HB := Lib.hid hb
        clear hb
        go_wp2_with fail
        refine (Tryz.asciiSet_contains b r[m] _ _ (HC.out r[m])).mono ?_
        rintro e w' ⟨rfl, hw'⟩; subst w'
        rw [HB.out]
        go_wp2_with fail
        go_ret
        exact ⟨by rw [HF.out]; rfl, rfl⟩
      · obtain ⟨r', hr'⟩ : ∃ r', r.extract 0 m = r' := ⟨_, rfl⟩
        have hs' : r'.size < r.size := by rw [← hr', ByteArray.size_extract]; omega
        have HN : Hid (trR r'.data.toList = trR s.data.toList) := Lib.hid (by
          rw [← HT.out, hcons.out, hr']; unfold trR; rw [List.reverse_append, List.reverse_singleton, List.singleton_append, List.dropWhile_cons, hb]; rfl)
        have HB := Lib.hid hb
        clear hb hcons
        go_wp2_with fail
        refine (Tryz.asciiSet_contains b r[m] _ _ (HC.out r[m])).mono ?_
        rintro e w' ⟨rfl, hw'⟩; subst w'
        rw [HB.out]
        go_wp2_with fail
        go_round
        case rel => exact ⟨r', rfl, by omega, HN⟩
        case measure => simpa [strSize] using hs'
    · have hz : r.data.toList = [] := List.length_eq_zero_iff.1 (by rw [show r.data.toList.length = r.size from Array.length_toList]; omega)
      have HF : Hid ((⟨(trR s.data.toList).toArray⟩ : ByteArray) = r) := Lib.hid (by
        rw [← HT.out, hz]; unfold trR; rw [List.reverse_nil, List.dropWhile_nil, List.reverse_nil, ← hz, mk_eq])
      have h0i : ¬ (0 : Int) < r.size := by omega
      have d0 : decide ((0 : Int) < r.size) = false := decide_eq_false h0i
      clear hz
      go_wp2_with fail
      go_ret
      exact ⟨by rw [HF.out]; rfl, rfl⟩

theorem Lp.infoZ : (Tryz.prog.info? 99).map (fun i => (i.zero, i.size)) = some (some (.agg (Array.replicate 256 (.bool false))), 256) := by kernel_rfl
theorem Lp.zeroSet : ∀ w, (zeroValue 99).run Tryz.prog w = .ok (.agg (Array.replicate 256 (.bool false))) w := (zero_of_info infoZ).1
theorem Lp.infoSet : (Tryz.prog.info? 99).map (·.size) = some 256 := (zero_of_info infoZ).2
/-- The set of the blanks. -/
def Lp.setB : Array Value := Lib.setCells [32, 9]
theorem Lp.makeset (w : World) :
    Calls Tryz.prog 78 #[.string ⟨#[32, 9]⟩] w fun e w' => e = .returned (.tuple #[.agg setB, .bool true]) ∧ w' = w.alloc (.cells setB 99) :=
  Tryz.strings_makeASCIISet zeroSet ⟨#[32, 9]⟩ w (by decide) (by
    intro j b h
    match j, h with
    | 0, h => simp at h; subst h; decide
    | 1, h => simp at h; subst h; decide)
theorem Lp.store_set (w : World) : (storeCells ⟨w.heap.size + 1, 0, none⟩ setB.toList 0).run Tryz.prog ((w.alloc (.cells setB 99)).alloc (.cells (Array.replicate 256 (.bool false)) 99)) = .ok () ((w.alloc (.cells setB 99)).alloc (.cells setB 99)) := by
  have := run_storeCells_new (P := Tryz.prog) (w.alloc (.cells setB 99)) 99 (Array.replicate 256 (.bool false)) setB (by rw [setB, Lib.setCells_size]; exact infoSet) (by rw [setB, Lib.setCells_size, Array.size_replicate]) (Lib.setCells_one _)
  simpa using this
theorem Lp.cells_set (w : World) : ∀ x : UInt8, ((w.alloc (.cells setB 99)).alloc (.cells setB 99)).cell? ⟨w.heap.size + 1, x.toNat, none⟩ = some (.bool (isB x)) := fun x => by
  rw [World.cell?_alloc_at _ _ _ _ (by simp), setB, Lib.setCells_at]; rfl

set_option maxRecDepth 100000 in
theorem trimleft_any (s : ByteArray) (w : World) :
    Calls Tryz.prog 103 #[.string s, .string ⟨#[32, 9]⟩] w fun e w' => e = .returned (.string ⟨(trL s.data.toList).toArray⟩) ∧ Below w.heap.size w w' := by
  have HB := Lib.hid (((Below.refl w.heap.size w).alloc (Nat.le_refl _) (.cells setB 99)).alloc (by simp) (.cells setB 99))
  by_cases h0 : s = ⟨#[]⟩
  · have HT : Hid ((⟨(trL s.data.toList).toArray⟩ : ByteArray) = s) := Lib.hid (by rw [h0]; rfl)
    have e0 : s.toList = [] := by rw [Lib.toList_data, h0]
    have HB0 := Lib.hid (Below.refl w.heap.size w)
    rw [HT.out]
    clear HB
    go_enter Tryz.func103, Tryz.ntmps103
    go_wp2_with fail
    go_ret
    exact ⟨rfl, HB0.out⟩
  · have hne : s.toList.isEmpty = false := by
      rw [Lib.toList_data]
      cases h : s.data.toList with
      | nil => exact absurd (by rw [← mk_eq s, h]) h0
      | cons _ _ => rfl
    have hne2 : ¬ s.toList = [] := by
      intro h; rw [h] at hne; cases hne
    have hsc := store_set w
    have HC := Lib.hid (cells_set w)
    have hz := zeroSet
    clear h0
    go_enter Tryz.func103, Tryz.ntmps103
    go_wp2_with fail
    refine (makeset w).mono ?_
    rintro e w' ⟨rfl, hw⟩; rw [hw]
    go_wp2_with fail
    refine (trimleft_ascii s _ _ HC.out).mono ?_
    rintro e w' ⟨rfl, hw'⟩; subst w'
    go_wp2_with fail
    go_ret
    exact ⟨rfl, HB.out⟩
set_option maxRecDepth 100000 in
theorem trim_any (s : ByteArray) (w : World) (hs : s.size ≤ 9223372036854775807) :
    Calls Tryz.prog 57 #[.string s, .string ⟨#[32, 9]⟩] w fun e w' => e = .returned (.string ⟨(trL (trR s.data.toList)).toArray⟩) ∧ Below w.heap.size w w' := by
  have HB := Lib.hid (((Below.refl w.heap.size w).alloc (Nat.le_refl _) (.cells setB 99)).alloc (by simp) (.cells setB 99))
  by_cases h0 : s = ⟨#[]⟩
  · have HT : Hid ((⟨(trL (trR s.data.toList)).toArray⟩ : ByteArray) = s) := Lib.hid (by rw [h0]; rfl)
    have e0 : s.toList = [] := by rw [Lib.toList_data, h0]
    have HB0 := Lib.hid (Below.refl w.heap.size w)
    rw [HT.out]
    clear HB
    go_enter Tryz.func57, Tryz.ntmps57
    go_wp2_with fail
    go_ret
    exact ⟨rfl, HB0.out⟩
  · have hne : s.toList.isEmpty = false := by
      rw [Lib.toList_data]
      cases h : s.data.toList with
      | nil => exact absurd (by rw [← mk_eq s, h]) h0
      | cons _ _ => rfl
    have hne2 : ¬ s.toList = [] := by
      intro h; rw [h] at hne; cases hne
    have hsc := store_set w
    have HC := Lib.hid (cells_set w)
    have hz := zeroSet
    obtain ⟨r, hr⟩ : ∃ r : ByteArray, (⟨(trR s.data.toList).toArray⟩ : ByteArray) = r := ⟨_, rfl⟩
    have hr2 : trR s.data.toList = r.data.toList := by rw [← hr]
    have HR := Lib.hid hr
    have HR2 := Lib.hid hr2
    rw [hr2]
    clear h0 hr hr2
    go_enter Tryz.func57, Tryz.ntmps57
    go_wp2_with fail
    refine (makeset w).mono ?_
    rintro e w' ⟨rfl, hw⟩; rw [hw]
    go_wp2_with fail
    refine (trimright_ascii s _ _ hs HC.out).mono ?_
    rintro e w' ⟨rfl, hw'⟩; subst w'
    rw [HR.out]
    go_wp2_with fail
    refine (trimleft_ascii r _ _ HC.out).mono ?_
    rintro e w' ⟨rfl, hw'⟩; subst w'
    go_wp2_with fail
    go_ret
    exact ⟨rfl, HB.out⟩
end Go.Proofs.YtegpajdahanhfaaGreatDoor
