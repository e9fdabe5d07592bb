/- Contracts of layer 6: Parse of the program, walked. -/
import Derived.Test.YtegpajdahanhfaaGreatDoorLeaR
namespace Go.Proofs.YtegpajdahanhfaaGreatDoor
open Go.RowKit Go.Shelf Fx Cv Lp

theorem Lp.readAll_step (c : UInt8) (q : List UInt8) (s : RS) : readAll (c :: q).length (c :: q) s = match readV (cutL 10 (c :: q)) s with | none => none | some s' => readAll (cutR 10 (c :: q)).length (cutR 10 (c :: q)) s' := by
  show (match readV (cutL 10 (c :: q)) s with | none => none | some s' => readAll q.length (cutR 10 (c :: q)) s') = _
  cases readV (cutL 10 (c :: q)) s with
  | none => rfl
  | some s' => exact readAll_fuel _ _ _ _ (cutR_lt c q) (Nat.le_refl _)
theorem Lp.p_zero {x : List UInt8} {w w' : World} {c : Int} (h : parV x = (c, rs0)) (hb : Below w.heap.size w w') :
    PPost x w (.returned (.tuple #[.agg #[.int .i64 0, .int .i64 0, .slice none 0 0], .int .i64 c])) w' := by
  unfold PPost; rw [h]
  exact ⟨hb, _, rfl, World.ownsRow_nil _ _ _ _⟩

set_option maxRecDepth 100000 in
set_option maxHeartbeats 2000000 in
theorem lparse_any (x : ByteArray) (hxs : x.size ≤ 4294967280) (hxa : Asc x) (w : World) (hp : Tab w) (he : Errs w) (ht : MT w) :
    Calls Tryz.prog 19 #[.string x] w (PPost x.data.toList w) := by
  have HP := Lib.hid hp
  have HE := Lib.hid he
  have HM := Lib.hid ht
  have HA := Lib.hid hxa
  clear hp he ht hxa
  go_enter Tryz.func19, Tryz.ntmps19
  go_wp2_with fail
  obtain ⟨b, hb⟩ : ∃ b, w.heap.size = b := ⟨_, rfl⟩
  obtain ⟨W1, hW1⟩ : ∃ W, w.alloc (.cells #[.int .i64 0, .int .i64 0, .slice none 0 0] 24) = W := ⟨_, rfl⟩
  have s1 : W1.heap.size = b + 1 := by rw [← hW1, ← hb]; simp
  obtain ⟨W2, hW2⟩ : ∃ W, W1.alloc (.cells #[.int .i64 0, .int .i64 0, .slice none 0 0, .bool false, .bool false] 57) = W := ⟨_, rfl⟩
  have s2 : W2.heap.size = b + 1 + 1 := by rw [← hW2]; simp [s1]
  have T1 : TBx W1 b 0 0 none 0 0 := by rw [← hW1, ← hb]; exact tbx_new w 0 0 none 0 0
  have T2 : Hid (TBx W2 b 0 0 none 0 0) := Lib.hid (by rw [← hW2]; exact T1.alloc _)
  have R2 : Hid (RR (b + 1) W2 rs0) := Lib.hid ⟨.slice none 0 0, by rw [← hW2, ← s1]; exact heap_alloc_new _ _, World.ownsRow_nil _ _ _ _⟩
  have B2 : Hid (Below b w W2) := Lib.hid (by
    rw [← hW2, ← hW1]
    have k0 : Below b w w := Below.refl _ _
    have k1 := k0.alloc (by omega) (.cells #[.int .i64 0, .int .i64 0, .slice none 0 0] 24)
    exact k1.alloc (by simp; omega) _)
  rw [hW1, hW2, hb]
  have HB := Lib.hid hb
  have hbW : b + 1 < W2.heap.size := by omega
  clear hb hW1 hW2 s1 s2 T1
  go_wp2_with fail
  go_loopw [5] (fun sv wr => ∃ (r : ByteArray) (s : RS), sv = .string r ∧ s.l.length + r.size ≤ 4294967280 ∧ Hid (Asc r) ∧ Hid (readAll x.data.toList.length x.data.toList rs0 = readAll r.data.toList.length r.data.toList s) ∧ Hid (RR (b + 1) wr s) ∧ Hid (TBx wr b 0 0 none 0 0) ∧ Hid (Below b w wr)) (fun sv _ => strSize sv)
  case atStart => exact ⟨x, rs0, rfl, by simp [rs0]; exact hxs, HA, Lib.hid rfl, R2, T2, B2⟩
  case round =>
    clear R2 T2 B2 hbW
    obtain ⟨r, s, rfl, hsz, HAr, HRA, HRR, HTB, HBL⟩ := hrel
    have hlen : r.data.toList.length = r.size := Array.length_toList
    cases hd : r.data.toList with
    | cons c q =>
      have hne : r.toList.isEmpty = false := by rw [Lib.toList_data, hd]; rfl
      have hne2 : ¬ r.toList = [] := by rw [Lib.toList_data, hd]; simp
      obtain ⟨L, hL⟩ : ∃ L : ByteArray, mk (cutL 10 r.data.toList) = L := ⟨_, rfl⟩
      obtain ⟨R, hR⟩ : ∃ R : ByteArray, mk (cutR 10 r.data.toList) = R := ⟨_, rfl⟩
      have hLd : L.data.toList = cutL 10 r.data.toList := by rw [← hL]; rfl
      have hRd : R.data.toList = cutR 10 r.data.toList := by rw [← hR]; rfl
      have hLl : L.data.toList.length = L.size := Array.length_toList
      have hRl : R.data.toList.length = R.size := Array.length_toList
      have hsub : (cutL 10 r.data.toList).Sublist r.data.toList := List.takeWhile_sublist _
      have hsubR : (cutR 10 r.data.toList).Sublist r.data.toList := (List.drop_sublist _ _).trans (List.dropWhile_sublist _)
      have hLs : L.size ≤ r.size := by have := hsub.length_le; rw [← hLd] at this; omega
      have hRs : R.size < r.size := by
        have := cutR_lt c q
        rw [← hd, ← hRd] at this
        rw [hd] at hlen; simp at hlen
        omega
      have hLa : Asc L := fun y hy => HAr.out y (hsub.subset (by rw [← hLd]; exact hy))
      have HRa : Hid (Asc R) := Lib.hid (fun y hy => HAr.out y (hsubR.subset (by rw [← hRd]; exact hy)))
      have HL := Lib.hid hL
      have HR := Lib.hid hR
      have HLA := Lib.hid hLa
      have HST : Hid (readAll r.data.toList.length r.data.toList s = match readV L.data.toList s with | none => none | some s' => readAll R.data.toList.length R.data.toList s') := Lib.hid (by
        rw [hLd, hRd, hd]; exact readAll_step c q s)
      clear hL hR hLd hRd hLl hRl hsub hsubR hLa hd hlen
      go_wp2_with fail
      refine (lcut_any 10 r wr (by omega)).mono ?_
      rintro e w1 ⟨f, rfl, kk, hw1⟩
      have hB1 : Below wr.heap.size wr w1 := by rw [hw1]; exact below_drewN (Below.refl _ _) kk
      have hws : w.heap.size ≤ wr.heap.size := HBL.out.size
      have hbl1 : b + 1 < wr.heap.size := HRR.out.lt
      have HRR1 := Lib.hid (HRR.out.below hB1)
      have HTB1 := Lib.hid (HTB.out.below hB1 (by omega))
      have HBL1 := Lib.hid (HBL.out.trans (hB1.mono (by omega)))
      have HP1 : Hid (Tab w1) := Lib.hid (HP.out.below (by rw [HB.out]; exact HBL1.out))
      have HE1 : Hid (Errs w1) := Lib.hid (HE.out.below (by rw [HB.out]; exact HBL1.out))
      clear hw1 hB1 HRR HTB HBL
      rw [HL.out, HR.out]
      go_wp2_with fail
      refine (lread_any L (by omega) HLA.out (b + 1) s (by omega) w1 HP1.out HE1.out HRR1.out).mono ?_
      intro e w2 hpost
      obtain ⟨rfl, hRR2, hb2⟩ := hpost
      have HTB2 := Lib.hid (HTB1.out.below hb2 (by omega))
      have HBL2 := Lib.hid (HBL1.out.trans (hb2.mono (by omega)))
      clear hb2
      cases hv : readV L.data.toList s with
      | some s' =>
        rw [hv] at hRR2
        have HRR2 : Hid (RR (b + 1) w2 s') := Lib.hid hRR2
        have hl := readV_len hv
        have HN : Hid (readAll x.data.toList.length x.data.toList rs0 = readAll R.data.toList.length R.data.toList s') := Lib.hid (by rw [HRA.out, HST.out, hv])
        clear hRR2 hv
        go_wp2_with fail
        go_roundw
        case rel => exact ⟨R, s', rfl, by omega, HRa, HN, HRR2, HTB2, HBL2⟩
        case measure => simpa [strSize] using hRs
      | none =>
        have HZ : Hid (parV x.data.toList = (19, rs0)) := Lib.hid (by unfold parV; rw [HRA.out, HST.out, hv])
        clear hRR2 hv
        obtain ⟨V1, V2, V3, v1, v2, v3, ⟨k0, f0⟩, ⟨k1, f1⟩, ⟨k2, f2⟩, HT, HG⟩ := tb_store HTB2.out 0 0 none 0 0
        go_wp2_with fail
        obtain ⟨q0, q1, q2⟩ := HT.out.cells
        exact bodyPost_ret (v := .tuple #[.agg #[.int .i64 0, .int .i64 0, .slice none 0 0], .int .i64 19]) (by simp [results, Tryz.results19, go_sem, q0, q1, q2]) rfl (p_zero HZ.out (by rw [HB.out]; exact HBL2.out.trans HG.out.1))
    | nil =>
      have e0 : r.toList = [] := by rw [Lib.toList_data, hd]
      have HF : Hid (readAll x.data.toList.length x.data.toList rs0 = some s) := Lib.hid (by rw [HRA.out, hd]; rfl)
      clear hd hlen HRA HAr
      obtain ⟨sb, se, she, shb, sl⟩ := s
      obtain ⟨v, hblk, hrow⟩ := HRR.out
      obtain ⟨k, hk⟩ : ∃ k, sl.length = k := ⟨_, rfl⟩
      simp only [hk] at hrow
      obtain ⟨p, c, rfl⟩ := row_form hrow
      have hk64 : k ≤ 4294967280 := by simp [hk] at hsz; omega
      have hbl1 : b + 1 < wr.heap.size := HRR.out.lt
      have hws : w.heap.size ≤ wr.heap.size := HBL.out.size
      have c0 : wr.cell? ⟨b + 1, 0, none⟩ = some (.int .i64 sb) := by simp [World.cell?, hblk]
      have c1 : wr.cell? ⟨b + 1, 1, none⟩ = some (.int .i64 se) := by simp [World.cell?, hblk]
      have c2 : wr.cell? ⟨b + 1, 2, none⟩ = some (.slice p k c) := by simp [World.cell?, hblk]
      have c3 : wr.cell? ⟨b + 1, 3, none⟩ = some (.bool she) := by simp [World.cell?, hblk]
      have c4 : wr.cell? ⟨b + 1, 4, none⟩ = some (.bool shb) := by simp [World.cell?, hblk]
      have HROW : Hid (wr.ownsRow (b + 1 + 1) 44 2 (.slice p k c) k (ents sl)) := Lib.hid hrow
      have HK := Lib.hid hk
      have HBK := Lib.hid hblk
      clear hblk hrow hk hsz
      cases she
      · have HZ : Hid (parV x.data.toList = (11, rs0)) := Lib.hid (by unfold parV; rw [HF.out]; rfl)
        obtain ⟨V1, V2, V3, v1, v2, v3, ⟨k0, f0⟩, ⟨k1, f1⟩, ⟨k2, f2⟩, HT, HG⟩ := tb_store HTB.out 0 0 none 0 0
        go_wp2_with fail
        obtain ⟨q0, q1, q2⟩ := HT.out.cells
        exact bodyPost_ret (v := .tuple #[.agg #[.int .i64 0, .int .i64 0, .slice none 0 0], .int .i64 11]) (by simp [results, Tryz.results19, go_sem, q0, q1, q2]) rfl (p_zero HZ.out (by rw [HB.out]; exact HBL.out.trans HG.out.1))
      · cases shb
        · have HZ : Hid (parV x.data.toList = (11, rs0)) := Lib.hid (by unfold parV; rw [HF.out]; rfl)
          obtain ⟨V1, V2, V3, v1, v2, v3, ⟨k0, f0⟩, ⟨k1, f1⟩, ⟨k2, f2⟩, HT, HG⟩ := tb_store HTB.out 0 0 none 0 0
          go_wp2_with fail
          obtain ⟨q0, q1, q2⟩ := HT.out.cells
          exact bodyPost_ret (v := .tuple #[.agg #[.int .i64 0, .int .i64 0, .slice none 0 0], .int .i64 11]) (by simp [results, Tryz.results19, go_sem, q0, q1, q2]) rfl (p_zero HZ.out (by rw [HB.out]; exact HBL.out.trans HG.out.1))
        · have HC := lchk_any sb se p k c (entF sl) wr (HM.out.below (by rw [HB.out]; exact HBL.out)) (row_lrd HROW.out HK.out)
          obtain ⟨z, hz⟩ : ∃ z, chkL sb se (entF sl) k = z := ⟨_, rfl⟩
          rw [hz] at HC
          by_cases hz0 : z = 0
          · subst hz0
            have HZ : Hid (parV x.data.toList = (0, ⟨sb, se, true, true, sl⟩)) := Lib.hid (by unfold parV; rw [HF.out]; simp [HK.out, hz])
            clear hz
            go_wp2_with fail
            refine HC.mono ?_
            rintro e w2 ⟨rfl, hb2⟩
            have hblk2 := (hb2.block (b + 1) hbl1).trans HBK.out
            have c0 : w2.cell? ⟨b + 1, 0, none⟩ = some (.int .i64 sb) := by simp [World.cell?, hblk2]
            have c1 : w2.cell? ⟨b + 1, 1, none⟩ = some (.int .i64 se) := by simp [World.cell?, hblk2]
            have c2 : w2.cell? ⟨b + 1, 2, none⟩ = some (.slice p k c) := by simp [World.cell?, hblk2]
            have HTB2 := Lib.hid (HTB.out.below hb2 (by omega))
            have HBL2 := Lib.hid (HBL.out.trans (hb2.mono (by omega)))
            have HROW2 := Lib.hid (row_below HROW.out hb2)
            clear hb2 hblk2 HC
            obtain ⟨V1, V2, V3, v1, v2, v3, ⟨k0, f0⟩, ⟨k1, f1⟩, ⟨k2, f2⟩, HT, HG⟩ := tb_store HTB2.out sb se p k c
            go_wp2_with fail
            obtain ⟨q0, q1, q2⟩ := HT.out.cells
            refine bodyPost_ret (v := .tuple #[.agg #[.int .i64 sb, .int .i64 se, .slice p k c], .int .i64 0]) (by simp [results, Tryz.results19, go_sem, q0, q1, q2]) rfl ?_
            unfold PPost
            rw [HZ.out, HB.out]
            refine ⟨HBL2.out.trans HG.out.1, _, rfl, ?_⟩
            show World.ownsRow _ _ _ _ _ sl.length _
            rw [HK.out]
            exact row_base (HROW2.out.kept HG.out.2 (.inr (row_ne HROW2.out (by omega)))) (by omega)
          · have HZ : Hid (parV x.data.toList = (z, rs0)) := Lib.hid (by unfold parV; rw [HF.out]; simp [HK.out, hz, hz0])
            clear hz
            have hzb : (z == 0) = false := by simpa using hz0
            go_wp2_with fail
            refine HC.mono ?_
            rintro e w2 ⟨rfl, hb2⟩
            have HTB2 := Lib.hid (HTB.out.below hb2 (by omega))
            have HBL2 := Lib.hid (HBL.out.trans (hb2.mono (by omega)))
            clear hb2 HC
            obtain ⟨V1, V2, V3, v1, v2, v3, ⟨k0, f0⟩, ⟨k1, f1⟩, ⟨k2, f2⟩, HT, HG⟩ := tb_store HTB2.out 0 0 none 0 0
            go_wp2_with fail
            obtain ⟨q0, q1, q2⟩ := HT.out.cells
            exact bodyPost_ret (v := .tuple #[.agg #[.int .i64 0, .int .i64 0, .slice none 0 0], .int .i64 z]) (by simp [results, Tryz.results19, go_sem, q0, q1, q2]) rfl (p_zero HZ.out (by rw [HB.out]; exact HBL2.out.trans HG.out.1))
end Go.Proofs.YtegpajdahanhfaaGreatDoor
