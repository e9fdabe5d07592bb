/- Contracts of layer 2: Append. -/
import Derived.Test.YtiecbpecpoojkaaWirB
import Derived.OwnWalk
import Derived.Laws.CopyOwn
namespace Go.Proofs.Ytiecbpecpoojkaa
open Go.RowKit Wi

theorem info_u8 : (Try.prog.info? 5).map (fun i => (i.zero, i.size, i.bytes)) = some (some (.int .u8 0), 1, 1) := by kernel_rfl
theorem size_u8 : (Try.prog.info? 5).map (·.size) = some 1 := by kernel_rfl

def Wi.byteAt (n : Int) (i : Nat) : Int := n / 2 ^ (8 * i) % 256
/-- The lowest k bytes of n, the highest of them first. -/
def Wi.beB (n : Int) : Nat → List Int
  | 0 => []
  | k + 1 => byteAt n k :: beB n k
theorem Wi.beB_length (n : Int) (k : Nat) : (beB n k).length = k := by induction k with
  | zero => rfl
  | succ k ih => simp [beB, ih]

/-- Block g is just these bytes. -/
def BBlk (w : World) (g : Nat) (l : List Int) : Prop := w.heap[g]? = some (.cells (l.map (Value.int .u8)).toArray 5 (0, 0))

theorem BBlk.lt {w : World} {g : Nat} {l : List Int} (h : BBlk w g l) : g < w.heap.size := by
  rcases Nat.lt_or_ge g w.heap.size with hlt | hge
  · exact hlt
  · unfold BBlk at h; rw [Array.getElem?_eq_none hge] at h; cases h
theorem BBlk.cell {w : World} {g : Nat} {l : List Int} (h : BBlk w g l) {i : Nat} (hi : i < l.length) : w.cell? ⟨g, i, none⟩ = some (.int .u8 (l.getD i 0)) := by
  unfold BBlk at h
  simp [World.cell?, h, hi]
theorem BBlk.frozen {w : World} {g : Nat} {l : List Int} (h : BBlk w g l) (i : Nat) : w.frozen? ⟨g, i, none⟩ = false := by
  unfold BBlk at h
  simp [World.frozen?, h]
theorem BBlk.set {w : World} {g : Nat} {l : List Int} (h : BBlk w g l) (i : Nat) (x : Int) : BBlk (w.setCell ⟨g, i, none⟩ (.int .u8 x)) g (l.set i x) := by
  unfold BBlk at h ⊢
  simp [World.setCell, Array.getElem?_modify, h]
theorem BBlk.below {w w' : World} {g B : Nat} {l : List Int} (h : BBlk w g l) (hb : Below B w w') (hg : g < B) : BBlk w' g l := (hb.block g hg).trans h
theorem BBlk.reads {w : World} {g : Nat} {l : List Int} (h : BBlk w g l) (hb : Bytes l) {B : Nat} (hB : g < B) : BReads w B (some ⟨g, 0, none⟩) l.length l :=
  ⟨rfl, hb, fun _ => ⟨g, 0, rfl, hB, fun i hi => by rw [Nat.zero_add]; exact h.cell hi⟩⟩

theorem made_zero (z : Value) (m : Nat) : (madeCells #[z] m).toList = List.replicate m z := by
  refine List.ext_getElem (by simp [madeCells]) fun i h1 h2 => ?_
  simp [madeCells, Nat.mod_one]

theorem bblk_made {w : World} {B g m : Nat} (h : w.ownsRow B 5 1 (.slice (some ⟨g, 0, none⟩) m m) m (madeCells (Value.int .u8 0).cells (m * 1)).toList) : BBlk w g (List.replicate m 0) := by
  rcases h.2 with ⟨hv, _⟩ | ⟨g', cap, cur, hv, _, hh, hc, _, hs, ht⟩
  · cases hv
  · injection hv with h1 h2 h3
    injection h1 with h1
    injection h1 with h1
    subst h1 h3
    have hz : (Value.int .u8 0).cells = #[.int .u8 0] := rfl
    rw [hz, Nat.mul_one, made_zero, List.take_of_length_le (by simp; omega)] at ht
    unfold BBlk
    rw [hh, List.map_replicate, ← ht]

theorem oneCell_u8 (l : List Int) : ∀ v ∈ l.map (Value.int .u8), v.oneCell' = true := by
  intro v hv
  obtain ⟨x, _, rfl⟩ := List.mem_map.1 hv
  rfl
theorem copy_src {w : World} {B n : Nat} {A : Option Addr} {l : List Int} (h : BReads w B A n l) (g : Nat) (off : Nat) : 0 < (l.map (Value.int .u8)).length → (some (⟨g, off, none⟩ : Addr) = some ⟨g, off, none⟩ ∧ ∃ ad, A = some ad ∧ ∀ j v, (l.map (Value.int .u8))[j]? = some v → w.cell? (ad.add j) = some v) := by
  intro hp
  rw [List.length_map, h.1] at hp
  obtain ⟨b, o, e, _, hc⟩ := h.2.2 hp
  refine ⟨rfl, _, e, fun j v hj => ?_⟩
  rw [List.getElem?_map] at hj
  rcases hx : l[j]? with _ | x
  · rw [hx] at hj; cases hj
  · rw [hx] at hj
    injection hj with hj
    have hlt : j < n := by
      rw [← h.1]
      rcases Nat.lt_or_ge j l.length with hlt | hge
      · exact hlt
      · rw [List.getElem?_eq_none hge] at hx; cases hx
    rw [Go.WideShapes.add_plain, hc j hlt, List.getD_eq_getElem?_getD, hx, ← hj]
    rfl
theorem splice_front (l : List Int) (s : Nat) : splice ((List.replicate (l.length + s) 0).map (Value.int .u8)) 0 (l.map (Value.int .u8)) = (l ++ List.replicate s 0).map (Value.int .u8) := by
  simp [splice]
theorem bblk_copied {w : World} {g n s : Nat} {l : List Int} (hl : l.length = n) (h : Hid (w.heap[g]? = some (.cells (splice ((List.replicate (n + s) 0).map (Value.int .u8)) 0 (l.map (Value.int .u8))).toArray 5 (0, 0)))) : BBlk w g (l ++ List.replicate s 0) := by
  subst hl
  have := h.out
  rw [splice_front] at this
  exact this

/-- What the block of Append holds after k rounds. -/
def Wi.apCtn (l : List Int) (v : Int) (s k : Nat) : List Int := l ++ (List.replicate (s - k) 0 ++ beB v k)
theorem Wi.apCtn_length (l : List Int) (v : Int) (s k : Nat) (h : k ≤ s) : (apCtn l v s k).length = l.length + s := by
  simp [apCtn, beB_length]; omega
theorem Wi.apCtn_set (l : List Int) (v : Int) (s k : Nat) (h : k < s) : (apCtn l v s k).set (l.length + s - 1 - k) (byteAt v k) = apCtn l v s (k + 1) := by
  unfold apCtn
  rw [List.set_append_right (h := by omega), show l.length + s - 1 - k - l.length = s - k - 1 from by omega]
  congr 1
  rw [show s - k = (s - (k + 1)) + 1 from by omega, List.replicate_succ', List.append_assoc, List.set_append_right (h := by simp)]
  simp [beB]

set_option maxRecDepth 100000 in
theorem append_ok (A : Option Addr) (n c : Nat) (l : List Int) (v : Int) (s : Nat) (w : World) (hr : BReads w w.heap.size A n l) (hm : n ≤ 140737488351232)
    (h1 : 1 ≤ s) (h2 : s ≤ 8) (h3 : v / 2 ^ (8 * s) = 0) :
    Calls Try.prog 4 #[.slice A n c, .int .u64 v, .int .i64 s] w fun e w' =>
      e = .returned (.tuple #[.slice (some ⟨w.heap.size, 0, none⟩) (n + s) (n + s), .int .i64 0]) ∧ BBlk w' w.heap.size (l ++ beB v s) ∧ Below w.heap.size w w' := by
  have hsz := Lib.hid (decide_eq_true (show (1 : Int) ≤ s ∧ (s : Int) ≤ 8 by omega))
  obtain ⟨i0, hi0, hz0, hz1, hz2⟩ := info_parts info_u8
  have Hr := Lib.hid hr
  have s1 : (l.map (Value.int .u8)).length = Nat.min n (n + s) := by rw [List.length_map, hr.1]; exact (Nat.min_eq_left (by omega)).symm
  have s3 : 0 + (l.map (Value.int .u8)).length ≤ ((List.replicate (n + s) 0).map (Value.int .u8)).length := by simp [hr.1]
  have S1 := Lib.hid s1
  have S3 := Lib.hid s3
  clear hr s1 s3
  go_enter Try.func4, Try.ntmps4
  go_wp2_with fail
  refine (isSize_any s _).mono ?_
  rintro e w' ⟨rfl, rfl⟩
  rw [hsz.out]
  go_wp2_with (first
    | (at_make; refine wpList_make_full _ rfl (.tmp 21) (.tmp 21) 22 rfl w.heap.size 5 i0 (.int .u8 0) 1 Try.underlying22 hi0 hz0 hz1 .i64 .i64 _ _ (n + s) rfl rfl (by omega) (by omega) (by rw [hz2]; omega) (by unfold maxLen; omega) (Nat.le_refl _) ?_; intro w1 hown1 hgr1; have hb1 := Lib.hid (bblk_made hown1); have hw1 : Below w.heap.size w w1 := (Below.refl _ _).grown hgr1 (Nat.le_refl _) (by simp); have s2 := Lib.hid (copy_src (Hr.out.below hw1) w.heap.size 0); clear hown1 hgr1)
    | (refine wpList_copy_splice (o := ⟨some 25, _, _, _, _, _⟩) rfl (.tmp 23) (.tmp 24) 22 22 rfl 5 Try.underlying22 size_u8 (some ⟨w.heap.size, 0, none⟩) A (n + s) (n + s) n c rfl rfl w.heap.size 0 ((List.replicate (n + s) 0).map (Value.int .u8)) 5 hb1.out (l.map (Value.int .u8)) S1.out s2.out S3.out (oneCell_u8 l) w.heap.size w hw1 (Nat.le_refl _) ?_; intro w2 hb2 hw2; have hb3 := bblk_copied Hr.out.1 hb2; clear hb1 hw1 s2 hb2))
  go_loopw [27] (fun i wr => ∃ k : Nat, k ≤ s ∧ i = .int .i64 k ∧ BBlk wr w.heap.size (apCtn l v s k) ∧ Below w.heap.size w wr) (fun i _ => s - (intOf i).toNat)
  case atStart => exact ⟨0, by omega, rfl, by simpa [apCtn, beB] using hb3, hw2⟩
  case round =>
    clear hb3 hw2
    obtain ⟨k, hk, rfl, hb, hw⟩ := hrel
    by_cases hlt : k < s
    · have hc := hb.cell (i := n + s - 1 - k) (by rw [apCtn_length _ _ _ _ hk, Hr.out.1]; omega)
      have hf := hb.frozen (n + s - 1 - k)
      have hs := hb.set (n + s - 1 - k) (byteAt v k)
      have hle := apCtn_set l v s k hlt
      rw [Hr.out.1] at hle
      rw [hle] at hs
      have HS := Lib.hid hs
      clear hs hle hb
      go_wp2_with fail
      go_roundw
      case rel => exact ⟨k + 1, by omega, by go_num, HS.out, hw.setCell (Nat.le_refl _) _⟩
      case measure => simp [intOf]; omega
    · obtain rfl : k = s := by omega
      go_wp2_with fail
      go_ret2
      exact ⟨rfl, by simpa [apCtn] using hb, hw⟩
/-- The error of Append. -/
def Wi.appE (v size : Int) : Int := if size < 1 ∨ 8 < size then 2 else if v / 2 ^ (8 * size.toNat) ≠ 0 then 3 else 0

theorem append_no (A : Option Addr) (n c : Nat) (v size : Int) (w : World) (he : appE v size ≠ 0) :
    Calls Try.prog 4 #[.slice A n c, .int .u64 v, .int .i64 size] w fun e w' => e = .returned (.tuple #[.slice none 0 0, .int .i64 (appE v size)]) ∧ w = w' := by
  by_cases c1 : size < 1 ∨ 8 < size
  · have hd := Lib.hid (decide_eq_false (show ¬(1 ≤ size ∧ size ≤ 8) by omega))
    have ho : Hid (appE v size = 2) := Lib.hid (if_pos c1)
    clear c1 he
    go_enter Try.func4, Try.ntmps4
    go_wp2_with fail
    refine (isSize_any size _).mono ?_
    rintro e w' ⟨rfl, rfl⟩
    rw [hd.out]
    go_wp2_with fail
    go_ret2
    exact ⟨by rw [ho.out]; rfl, rfl⟩
  · have hd := Lib.hid (decide_eq_true (show 1 ≤ size ∧ size ≤ 8 by omega))
    by_cases c2 : v / 2 ^ (8 * size.toNat) = 0
    · exact absurd (by unfold appE; rw [if_neg c1, if_neg (by simpa using c2)]) he
    · have ho : Hid (appE v size = 3) := Lib.hid (by unfold appE; rw [if_neg c1, if_pos c2])
      obtain ⟨s, rfl⟩ := Int.eq_ofNat_of_zero_le (by omega : 0 ≤ size)
      rw [Int.toNat_natCast] at c2
      have k1 : 1 ≤ s := by omega
      have k2 : s ≤ 8 := by omega
      have c2' : (v / 2 ^ (8 * s) == 0) = false := by simpa using c2
      clear c1 he
      go_enter Try.func4, Try.ntmps4
      go_wp2_with fail
      refine (isSize_any s _).mono ?_
      rintro e w' ⟨rfl, rfl⟩
      rw [hd.out]
      go_wp2_with fail
      go_ret2
      exact ⟨by rw [ho.out]; rfl, rfl⟩
end Go.Proofs.Ytiecbpecpoojkaa
