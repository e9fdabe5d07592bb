/- The walk of LeapChecks. -/
import Derived.Test.YtegpajdahanhfaaGreatDoorLevB
import Derived.Test.YtegpajdahanhfaaGreatDoorLexY
import Derived.Deep.RegionHeld3
namespace Go.Proofs.YtegpajdahanhfaaGreatDoor
open Go.RowKit Go.Shelf Fx Cv Lp Pt

set_option maxRecDepth 100000 in
theorem checks6_law (B E : Int) (a : Option Addr) (n c : Nat) (f : Nat → Int × Int) (w : World) (ht : MT w) (hp : Tab w) (he : Errs w) (hr : LRd w w.heap.size a n f) :
    Calls Tryz.prog 3 #[.agg #[.int .i64 B, .int .i64 E, .slice a n c]] w fun e w' => e = .returned (.bool true) ∧ Below w.heap.size w w' := by
  obtain ⟨p, hp2⟩ : ∃ p, decide (n ≤ 70) = p := ⟨_, rfl⟩
  have HN := Lib.hid hp2
  clear hp2
  have S0' := Lib.hid (lw_new w B E a n c f hr ht hp he)
  clear ht hp he hr
  obtain ⟨v0, hv0⟩ : ∃ v, w.alloc (.cells #[.int .i64 B, .int .i64 E, .slice a n c] 24) = v := ⟨_, rfl⟩
  obtain ⟨G, hG⟩ : ∃ G, w.heap.size = G := ⟨_, rfl⟩
  have S0 : Hid (Lw w v0 G B E a n c f) := Lib.hid (by rw [← hv0, ← hG]; exact S0'.out)
  clear S0'
  obtain ⟨t0', t1', t2'⟩ := S0.out.cells
  cases p
  · go_enter Tryz.func3, Tryz.ntmps3
    go_wp2_with fail
    refine (small6_v HN.out v0).mono ?_
    rintro e v1 ⟨rfl, hbl⟩
    have S1 := Lib.hid (S0.out.below hbl)
    clear hbl S0 t0' t1' t2' hv0 hG
    obtain ⟨t0, t1, t2⟩ := S1.out.cells
    go_wp2_with fail
    refine (awake6_any v1 S1.out.mt S1.out.tab S1.out.errs).mono ?_
    rintro e v2 ⟨rfl, hbl⟩
    have S2 := Lib.hid (S1.out.below hbl)
    go_wp2_with fail
    go_ret
    exact ⟨rfl, S2.out.bel⟩
  · go_enter Tryz.func3, Tryz.ntmps3
    go_wp2_with fail
    refine (small6_v HN.out v0).mono ?_
    rintro e v1 ⟨rfl, hbl⟩
    have S1 := Lib.hid (S0.out.below hbl)
    clear hbl S0 t0' t1' t2' hv0 hG
    obtain ⟨t0, t1, t2⟩ := S1.out.cells
    go_wp2_with fail
    have S1d : Hid (Lw w v1.drew G B E a n c f) := Lib.hid ⟨S1.out.box, S1.out.lrd, S1.out.mt, S1.out.tab, S1.out.errs, S1.out.bel.drew⟩
    go_region_held3 (fun w' => w'.cell? ⟨G, 0, none⟩ = some (.int .i64 B) ∧ w'.cell? ⟨G, 1, none⟩ = some (.int .i64 E) ∧ w'.cell? ⟨G, 2, none⟩ = some (.slice a n c)) (go_keep)
      (first
        | (go_at_call 12; refine (lchk_any B E a n c f _ ?_ ?_).mono ?_; exact S1d.out.mt; exact S1d.out.lrd; rintro e v2 ⟨rfl, hbl⟩; have S2 := Lib.hid (S1d.out.below hbl); clear hbl S1d; obtain ⟨y0, y1, y2⟩ := S2.out.cells; clear t0 t1 t2)
        | (go_at_call 13; refine (rchk_any B E a n c f _ ?_).mono ?_; exact S2.out.lrd; rintro e v3 ⟨rfl, hbl⟩; have S3 := Lib.hid (S2.out.below hbl); clear hbl S2; obtain ⟨z0, z1, z2⟩ := S3.out.cells; clear y0 y1 y2)
        | (go_at_call 11; refine (awake6_any _ ?_ ?_ ?_).mono ?_; exact S3.out.mt; exact S3.out.tab; exact S3.out.errs; rintro e v4 ⟨rfl, hbl⟩; have S4 := Lib.hid (S3.out.below hbl); clear hbl; obtain ⟨x0, x1, x2⟩ := S4.out.cells; clear z0 z1 z2))
    go_wp2_with fail
    go_ret
    exact ⟨rfl, S4.out.bel⟩
end Go.Proofs.YtegpajdahanhfaaGreatDoor
