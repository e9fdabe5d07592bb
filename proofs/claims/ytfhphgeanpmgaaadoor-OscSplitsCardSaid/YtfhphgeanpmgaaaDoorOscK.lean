/- Laws of layer 9: a segment that is divided: rows of segments. -/
import Derived.Test.YtfhphgeanpmgaaaDoorOscI
import Derived.Test.YtfhphgeanpmgaaaDoorOscN
import Derived.Deep.AppendLies
import Derived.ArgAppend
import Derived.Deep.CutRange
import Derived.Deep.RegionLaw
namespace Go.Proofs.YtfhphgeanpmgaaaDoor
open Go.RowKit Fx Oc

/-- The cells of the first k segments. -/
def Oc.segs (f : Nat → Int × Int) : Nat → List Value
  | 0 => []
  | k + 1 => segs f k ++ [.int .i64 (f k).1, .int .i64 (f k).2]
theorem Oc.segs_len (f : Nat → Int × Int) : ∀ k, (segs f k).length = k * 2
  | 0 => rfl
  | k + 1 => by unfold segs; rw [List.length_append, segs_len f k]; show k * 2 + 2 = _; omega
theorem Oc.segs_at (f : Nat → Int × Int) : ∀ {k i : Nat}, i < k → (segs f k)[i * 2]? = some (.int .i64 (f i).1) ∧ (segs f k)[i * 2 + 1]? = some (.int .i64 (f i).2)
  | 0, i, h => absurd h (by omega)
  | k + 1, i, h => by
    unfold segs
    have hl := segs_len f k
    rcases Nat.lt_or_eq_of_le (Nat.lt_succ_iff.1 h) with h2 | rfl
    · have ih := segs_at f (k := k) h2
      rw [List.getElem?_append_left (by omega), List.getElem?_append_left (by omega)]
      exact ih
    · rw [List.getElem?_append_right (by omega), List.getElem?_append_right (by omega), hl]
      rw [show i * 2 - i * 2 = 0 by omega, show i * 2 + 1 - i * 2 = 1 by omega]
      exact ⟨rfl, rfl⟩
theorem Oc.segs_one (f : Nat → Int × Int) : ∀ k, ∀ u ∈ segs f k, u.oneCell' = true
  | 0, u, h => by cases h
  | k + 1, u, h => by
    unfold segs at h
    rcases List.mem_append.1 h with h | h
    · exact segs_one f k u h
    · simp at h
      rcases h with rfl | rfl <;> rfl
theorem Oc.segs_add (f : Nat → Int × Int) (k : Nat) : ∀ m, segs f (k + m) = segs f k ++ segs (fun j => f (k + j)) m
  | 0 => by simp [segs]
  | m + 1 => by
    show segs f (k + m) ++ [.int .i64 (f (k + m)).1, .int .i64 (f (k + m)).2] = segs f k ++ (segs (fun j => f (k + j)) m ++ [.int .i64 (f (k + m)).1, .int .i64 (f (k + m)).2])
    rw [segs_add f k m, List.append_assoc]
theorem Oc.segs_congr {f g : Nat → Int × Int} : ∀ {k : Nat}, (∀ i, i < k → f i = g i) → segs f k = segs g k
  | 0, _ => rfl
  | k + 1, h => by
    unfold segs
    rw [segs_congr (fun i hi => h i (by omega)), h k (by omega)]
theorem Oc.segs_ins (f : Nat → Int × Int) (i n : Nat) (s : Int × Int) (hi : i ≤ n) : segs f i ++ [.int .i64 s.1, .int .i64 s.2] ++ segs (fun j => f (i + j)) (n - i) = segs (ins f i s) (n + 1) := by
  have e1 : segs (ins f i s) (n + 1) = segs (ins f i s) (i + 1) ++ segs (fun j => ins f i s (i + 1 + j)) (n - i) := by
    have := segs_add (ins f i s) (i + 1) (n - i)
    rw [show i + 1 + (n - i) = n + 1 by omega] at this
    exact this
  rw [e1]
  have e2 : segs (ins f i s) (i + 1) = segs f i ++ [.int .i64 s.1, .int .i64 s.2] := by
    show segs (ins f i s) i ++ _ = _
    rw [segs_congr (g := f) (fun j hj => ins_lt hj), ins_eq]
  have e3 : segs (fun j => ins f i s (i + 1 + j)) (n - i) = segs (fun j => f (i + j)) (n - i) :=
    segs_congr fun j _ => by
      show ins f i s (i + 1 + j) = f (i + j)
      rw [ins_gt (by omega), show i + 1 + j - 1 = i + j by omega]
  rw [e2, e3]
/-- What the walk appends out of a row that came in. -/
theorem Oc.segs_news {w : World} {D b off n : Nat} {f : Nat → Int × Int} (h : Rd2 w D (some ⟨b, off, none⟩) n f) (s k : Nat) (hk : s + k ≤ n) :
    ∀ j u, (segs (fun i => f (s + i)) k)[j]? = some u → w.cell? ((⟨b, off + s * 2, none⟩ : Addr).add j) = some u := by
  intro j u hu
  have hj : j < k * 2 := by
    rw [← segs_len (fun i => f (s + i)) k]
    exact (List.getElem?_eq_some_iff.1 hu).1
  rw [Go.WideShapes.add_plain]
  have ha := segs_at (fun i => f (s + i)) (k := k) (i := j / 2) (by omega)
  have hc := h.at (i := s + j / 2) (by omega)
  rcases Nat.mod_two_eq_zero_or_one j with hm | hm
  · rw [show j / 2 * 2 = j by omega] at ha
    rw [show off + s * 2 + j = off + (s + j / 2) * 2 by omega, hc.1, ← hu, ha.1]
  · rw [show j / 2 * 2 + 1 = j by omega] at ha
    rw [show off + s * 2 + j = off + (s + j / 2) * 2 + 1 by omega, hc.2, ← hu, ha.2]
theorem Oc.row_reads {w : World} {base g m cap : Nat} {h : Nat → Int × Int} (hr : w.ownsRow base 36 2 (.slice (some ⟨g, 0, none⟩) m cap) m (segs h m)) : Rd2 w w.heap.size (some ⟨g, 0, none⟩) m h := fun hm => by
  refine ⟨g, 0, rfl, (hr.lt g rfl).2, fun i hi => ?_⟩
  have ha := segs_at h hi
  rw [Nat.zero_add, hr.cellAt _ (by omega), hr.cellAt _ (by omega)]
  exact ha
theorem Oc.own_empty (w : World) (base : Nat) (hb : base ≤ w.heap.size) : (w.alloc (.cells #[] 36)).ownsRow base 36 2 (.slice (some ⟨w.heap.size, 0, none⟩) 0 0) 0 [] :=
  ⟨rfl, .inr ⟨w.heap.size, 0, #[], rfl, hb, heap_alloc_new w _, Nat.le_refl _, Nat.zero_le _, rfl, rfl⟩⟩

theorem Oc.infoS : (Tryd.prog.info? 36).map (fun i => (i.zero, i.size, i.bytes)) = some (some (.agg #[.int .i64 0, .int .i64 0]), 2, 16) := by kernel_rfl
theorem Oc.info_parts {e : TypeId} {P : Program} {z : Value} {size bytes : Nat} (h : (P.info? e).map (fun i => (i.zero, i.size, i.bytes)) = some (some z, size, bytes)) : ∃ i, P.info? e = some i ∧ i.zero = some z ∧ i.size = size ∧ i.bytes = bytes := by
  cases hi : P.info? e with
  | none => rw [hi] at h; cases h
  | some i => rw [hi] at h; simp at h; exact ⟨i, rfl, h.1, h.2.1, h.2.2⟩
theorem Oc.step_app {P : Program} (w : World) {ops : Array Oper} {o : Oper} {a : Act} {K : Act → World → Prop} {Q : Exit → Act → World → Prop} {E : Prop} (hgd : o.guard = none) (s x : Operand) (t : TypeId)
    (ho : o.op = .call { callee := .builtin .append, args := #[s, x], argTypes := #[t, t] })
    (base : Nat) (e : TypeId) (i : TypeInfo) (z : Value) (size bytes : Nat) (ht : P.underlying t = some (.slice e)) (hi : P.info? e = some i) (hz : i.zero = some z)
    (hsize : i.size = size) (hby : i.bytes = bytes) (hzs : z.cells.size = size) (hsz : 0 < size)
    (v : Value) (n : Nat) (xs : List Value) (hs : a.eval s = v) (hown : w.ownsRow base e size v n xs)
    (ad : Addr) (m c : Nat) (news : List Value) (hx : a.eval x = .slice (some ad) m c) (hl : news.length = m * size) (hnews : ∀ j u, news[j]? = some u → w.cell? (ad.add j) = some u) (h1 : ∀ u ∈ news, u.oneCell' = true)
    (hm : 0 < m) (h63 : n + m ≤ maxLen) (hbytes : (n + m) * bytes ≤ 140737488355328) (hbase : base ≤ w.heap.size) (k : Nat) (ys : List Value) (hk : n + m = k) (hy : xs ++ news = ys)
    (h : ∀ g cap w', w'.ownsRow base e size (.slice (some ⟨g, 0, none⟩) k cap) k ys → w.grownBy w' v.ownBlock → g < w'.heap.size → K (a.put o.dst (.slice (some ⟨g, 0, none⟩) k cap)) w') :
    if Region.wanted o (yielded ops a.tmps) = true then Oper.wp P o a w K Q else E := by
  subst hk hy
  exact step_append_lies w hgd s x t ho base e i z size bytes ht hi hz hsize hby hzs hsz v n xs hs hown ad m c news hx hl hnews h1 hm h63 hbytes hbase w.heap.size rfl (fun g cap w' h2 h3 _ h5 => h g cap w' h2 h3 h5)
theorem Oc.bl_alloc {v W : World} {o : Obj} (h : Below v.heap.size v W) : Below v.heap.size v (W.alloc o) := h.alloc h.size _
theorem Oc.own_drew {W : World} {base size n : Nat} {e : TypeId} {v : Value} {xs : List Value} (h : W.ownsRow base e size v n xs) : W.drew.ownsRow base e size v n xs := h
theorem Oc.own_alloc {W : World} {base size n : Nat} {e : TypeId} {v : Value} {xs : List Value} {o : Obj} (h : W.ownsRow base e size v n xs) : (W.alloc o).ownsRow base e size v n xs := h.alloc _
theorem Oc.own_new {W : World} {base g : Nat} (hg : W.heap.size = g) (hb : base ≤ g) : (W.alloc (.cells #[] 36)).ownsRow base 36 2 (.slice (some ⟨g, 0, none⟩) 0 0) 0 [] := by
  subst hg; exact own_empty W base hb
theorem Oc.own_ge {W : World} {base size n m g cap : Nat} {e : TypeId} {xs : List Value} (h : W.ownsRow base e size (.slice (some ⟨g, 0, none⟩) m cap) n xs) : base ≤ g := (h.lt g rfl).1
theorem Oc.bk_new {W : World} {h : Nat} {cs : Array Value} {t : TypeId} (hh : W.heap.size = h) : (W.alloc (.cells cs t)).heap[h]? = some (.cells cs t (0, 0)) := by
  subst hh; exact heap_alloc_new W _
theorem Oc.bk_lt {W : World} {h : Nat} {o : Obj} (hb : W.heap[h]? = some o) : h < W.heap.size := (Array.getElem?_eq_some_iff.1 hb).1
theorem Oc.bk_alloc {W : World} {h : Nat} {o x : Obj} (hb : W.heap[h]? = some o) : (W.alloc x).heap[h]? = some o := (Below.heap_alloc W x h (bk_lt hb)).trans hb
theorem Oc.bk_drew {W : World} {h : Nat} {o : Obj} (hb : W.heap[h]? = some o) : W.drew.heap[h]? = some o := hb
theorem Oc.bk_grown {W W' : World} {h g : Nat} {o : Obj} (hb : W.heap[h]? = some o) (hg : W.grownBy W' (some g)) (hne : h ≠ g) : W'.heap[h]? = some o :=
  (hg.block h (bk_lt hb) (fun e => hne (Option.some.inj e))).trans hb
theorem Oc.bl_grown {v W W' : World} {g : Nat} (h : Below v.heap.size v W) (hg : W.grownBy W' (some g)) (hge : v.heap.size ≤ g) : Below v.heap.size v W' :=
  h.grown hg h.size (fun k e => by cases e; exact hge)
theorem Oc.Rd2.blk {w : World} {D b off n : Nat} {f : Nat → Int × Int} (h : Rd2 w D (some ⟨b, off, none⟩) n f) (hn : 0 < n) : b < D := by
  obtain ⟨b', off', e, hlt, _⟩ := h hn
  cases e; exact hlt
theorem Oc.news0 {w : World} {D b off n : Nat} {f : Nat → Int × Int} (h : Rd2 w D (some ⟨b, off, none⟩) n f) (k : Nat) (hk : k ≤ n) : ∀ j u, (segs f k)[j]? = some u → w.cell? ((⟨b, off, none⟩ : Addr).add j) = some u := by
  have := segs_news h 0 k (by omega)
  rw [segs_congr (g := f) (fun i _ => by rw [Nat.zero_add])] at this
  rw [show off + 0 * 2 = off by omega] at this
  exact this
theorem Oc.step_app0 {P : Program} (w : World) {ops : Array Oper} {o : Oper} {a : Act} {K : Act → World → Prop} {Q : Exit → Act → World → Prop} {E : Prop} (hgd : o.guard = none) (s x : Operand) (t : TypeId)
    (ho : o.op = .call { callee := .builtin .append, args := #[s, x], argTypes := #[t, t] })
    (e : TypeId) (i : TypeInfo) (size : Nat) (ht : P.underlying t = some (.slice e)) (hi : P.info? e = some i) (hsize : i.size = size)
    (base g n cap : Nat) (xs : List Value) (hs : a.eval s = .slice (some ⟨g, 0, none⟩) n cap) (hown : w.ownsRow base e size (.slice (some ⟨g, 0, none⟩) n cap) n xs)
    (ad : Addr) (m c : Nat) (hx : a.eval x = .slice (some ad) m c) (hm : m = 0) (k : Nat) (ys : List Value) (hk : n = k) (hy : xs = ys)
    (h : w.ownsRow base e size (.slice (some ⟨g, 0, none⟩) k cap) k ys → K (a.put o.dst (.slice (some ⟨g, 0, none⟩) k cap)) w) :
    if Region.wanted o (yielded ops a.tmps) = true then Oper.wp P o a w K Q else E := by
  subst hk hy hm
  have hroom : n + 0 ≤ cap := by
    rcases hown.2 with ⟨e, _⟩ | ⟨g', cap', cur, e, _, _, hn, _⟩
    · cases e
    · cases e; exact hn
  exact step_append_room hgd s x t ho e i size ht hi hsize g 0 n cap hs ad 0 c [] hx (by simp) (fun j u hu => by simp at hu) (fun u hu => by cases hu) hroom (fun j hj => absurd hj (Nat.not_lt_zero _)) (h hown)
theorem Oc.if_slice {C : Prop} [Decidable C] (A A' : Addr) (m c : Nat) : Value.slice (if C then some A else some A') m c = .slice (some (if C then A else A')) m c := by
  by_cases h : C
  · rw [if_pos h, if_pos h]
  · rw [if_neg h, if_neg h]
theorem Oc.spl_last {f : Nat → Int × Int} {n j : Nat} {p q : Int} (h : n = j + 1) : segs f (j + 1) ++ [Value.int .i64 p, Value.int .i64 q] = segs (ins f (j + 1) (p, q)) (n + 1) := by
  have e := segs_ins f (j + 1) n (p, q) (by omega)
  rw [show n - (j + 1) = 0 by omega] at e
  rw [← e]
  simp [segs]
theorem Oc.own_below {W W' : World} {base size n : Nat} {e : TypeId} {v : Value} {xs : List Value} (h : W.ownsRow base e size v n xs) (hb : Below W.heap.size W W') : W'.ownsRow base e size v n xs := by
  obtain ⟨hl, h2⟩ := h
  refine ⟨hl, ?_⟩
  rcases h2 with ⟨rfl, rfl⟩ | ⟨g, cap, cur, rfl, h0, hg, r⟩
  · exact .inl ⟨rfl, rfl⟩
  · exact .inr ⟨g, cap, cur, rfl, h0, (hb.block g (bk_lt hg)).trans hg, r⟩
theorem Oc.own_frozen {W : World} {base size n m g cap : Nat} {e : TypeId} {xs : List Value} (h : W.ownsRow base e size (.slice (some ⟨g, 0, none⟩) m cap) n xs) (k : Nat) : W.frozen? ⟨g, k, none⟩ = false := by
  rcases h.2 with ⟨e, _⟩ | ⟨g', cap', cur, e, _, hg, _⟩
  · cases e
  · cases e; simp [World.frozen?, hg]
theorem Oc.rd_congr {ph : Int} {n n' : Nat} {f f' : Nat → Int × Int} {t : Int} (h : Vd ph n f) (h' : Vd ph n' f') (hr : 0 ≤ t → t ≤ 1125899906842624 → rd ph n' f' t = rd ph n f t) : rdV ph n' f' t = rdV ph n f t ∧ rdE ph n' f' t = rdE ph n f t := by
  have e1 := chk_iff.2 h
  have e2 := chk_iff.2 h'
  unfold rdV rdE
  rw [e1, e2]
  by_cases ht : 0 ≤ t ∧ t ≤ 1125899906842624
  · refine ⟨?_, rfl⟩
    rw [hr ht.1 ht.2]
  · refine ⟨?_, rfl⟩
    rw [if_pos rfl, if_neg ht]
    rfl
theorem Oc.spl_vd {ph : Int} {n j : Nat} {f : Nat → Int × Int} (h : Vd ph n f) (hn : n < 16) (hj : j < n) {p q x : Int} (hp0 : 1 ≤ p) (hp1 : p ≤ 1125899906842624) (hq : (f j).2 = q) (hl : (f j).1 < p) (hr : j + 1 < n → p < (f (j + 1)).1) (hx : x = q ∨ x = -q) : Vd ph (n + 1) (ins f (j + 1) (p, x)) := by
  have := (h.ok j hj).2
  refine ins_vd h hn (by omega) (by omega) ⟨⟨by show 0 ≤ p; omega, hp1⟩, ?_⟩ hl hr
  show -500000 ≤ x ∧ x ≤ 500000
  omega
theorem Oc.spl_rd {ph : Int} {n j : Nat} {f : Nat → Int × Int} (h : Vd ph n f) (hn : n < 16) (hj : j < n) {p q : Int} (t : Int) (hp0 : 1 ≤ p) (hp1 : p ≤ 1125899906842624) (hq : (f j).2 = q) (hl : (f j).1 < p) (hr : j + 1 < n → p < (f (j + 1)).1) : rdV ph (n + 1) (ins f (j + 1) (p, q)) t = rdV ph n f t ∧ rdE ph (n + 1) (ins f (j + 1) (p, q)) t = rdE ph n f t := by
  refine rd_congr h (spl_vd h hn hj hp0 hp1 hq hl hr (.inl rfl)) fun t0 t1 => ?_
  subst hq
  exact ins_rd (i := j + 1) (by omega) (by omega) t0 t1 hp1 hl hr
theorem Oc.spl_rd2 {ph : Int} {n j : Nat} {f : Nat → Int × Int} (h : Vd ph n f) (hn : n < 16) (hj : j < n) {p q t : Int} (ht : t ≤ p) (hp0 : 1 ≤ p) (hp1 : p ≤ 1125899906842624) (hq : (f j).2 = q) (hl : (f j).1 < p) (hr : j + 1 < n → p < (f (j + 1)).1) : rdV ph (n + 1) (ins f (j + 1) (p, -q)) t = rdV ph n f t ∧ rdE ph (n + 1) (ins f (j + 1) (p, -q)) t = rdE ph n f t := by
  refine rd_congr h (spl_vd h hn hj hp0 hp1 hq hl hr (.inr rfl)) fun t0 t1 => ?_
  rw [ins_rd_any (q := q) ht]
  subst hq
  exact ins_rd (i := j + 1) (by omega) (by omega) t0 t1 hp1 hl hr
/-- The row when the new segment's error is turned. -/
theorem Oc.row_turn {W : World} {base g cap n j : Nat} {f : Nat → Int × Int} {p q x : Int} (h : W.ownsRow base 36 2 (.slice (some ⟨g, 0, none⟩) (n + 1) cap) (n + 1) (segs (ins f (j + 1) (p, q)) (n + 1))) (hj : j < n) :
    Rd2 (W.setCell ⟨g, (j + 1) * 2 + 1, none⟩ (.int .i64 x)) W.heap.size (some ⟨g, 0, none⟩) (n + 1) (ins f (j + 1) (p, x)) := fun _ => by
  refine ⟨g, 0, rfl, (h.lt g rfl).2, fun i hi => ?_⟩
  have ha := segs_at (ins f (j + 1) (p, q)) hi
  have h1 : W.cell? ⟨g, 0 + i * 2, none⟩ = some (.int .i64 (ins f (j + 1) (p, q) i).1) := by rw [Nat.zero_add, h.cellAt _ (by omega)]; exact ha.1
  have h2 : W.cell? ⟨g, 0 + i * 2 + 1, none⟩ = some (.int .i64 (ins f (j + 1) (p, q) i).2) := by rw [Nat.zero_add, h.cellAt _ (by omega)]; exact ha.2
  have hf : (ins f (j + 1) (p, x) i).1 = (ins f (j + 1) (p, q) i).1 := by
    unfold ins; split
    · rfl
    · split <;> rfl
  rw [hf]
  refine ⟨?_, ?_⟩
  · rw [World.cell?_setCell_other _ _ _ _ (by simp <;> omega)]; exact h1
  · by_cases he : i = j + 1
    · subst he
      rw [ins_eq]
      rw [show 0 + (j + 1) * 2 + 1 = (j + 1) * 2 + 1 by omega] at h2 ⊢
      exact World.cell?_setCell_same _ _ _ h2
    · rw [World.cell?_setCell_other _ _ _ _ (by simp <;> omega), h2]
      have : ins f (j + 1) (p, x) i = ins f (j + 1) (p, q) i := by
        unfold ins; split
        · rfl
        · first | rfl | rw [if_neg he, if_neg he]
      rw [this]
set_option maxRecDepth 100000 in
set_option maxHeartbeats 2000000 in
theorem splits9_go (ph : Int) (b off n c : Nat) (f : Nat → Int × Int) (p t : Int) (w : World) (hv : VN w) (hr : Rd2 w w.heap.size (some ⟨b, off, none⟩) n f) (hm : n ≤ 9223372036854775807) (hnc : n ≤ c) (h : Vd ph n f) (hn : n < 16) (hp0 : 1 ≤ p) (hp1 : p ≤ 1125899906842624) :
    Calls Tryd.prog 8 #[.agg #[.int .i64 ph, .slice (some ⟨b, off, none⟩) n c], .int .i64 p, .int .i64 t] w fun e w' => e = .returned (.bool true) ∧ Below w.heap.size w w' := by
  have HVd := Lib.hid h
  have n0 := h.n0
  have HZ0 := Lib.hid h.z
  have HM := Lib.hid hm
  have d0 : decide (p < 1) = false := decide_eq_false (by omega)
  have d1 : decide (1125899906842624 < p) = false := decide_eq_false (by omega)
  have d2 : decide ((16 : Int) ≤ (n : Int)) = false := decide_eq_false (by omega)
  have HCK := Lib.hid (chk_iff.2 h)
  clear h
  have hb1 : Below w.heap.size w (w.alloc (.cells #[.int .i64 ph, .slice (some ⟨b, off, none⟩) n c] 24)) := (Below.refl _ _).alloc (Nat.le_refl _) _
  have hX1 := ox_new w ph (some ⟨b, off, none⟩) n c
  obtain ⟨v0, hvw⟩ : ∃ v, w.alloc (.cells #[.int .i64 ph, .slice (some ⟨b, off, none⟩) n c] 24) = v := ⟨_, rfl⟩
  rw [hvw] at hb1 hX1
  have S0 : Hid (Lw w w.heap.size ph (some ⟨b, off, none⟩) n c f v0) := Lib.hid ⟨⟨hX1, hr.below hb1, hb1⟩, hv.below hb1⟩
  obtain ⟨c0, c1⟩ := hX1.cells
  clear hb1 hX1 hr hv
  go_enter Tryd.func8, Tryd.ntmps8
  go_wp2_with fail
  clear hvw c0 c1
  refine (ochk_any ph (some ⟨b, off, none⟩) n c f v0 S0.out.vn S0.out.rd HM.out).mono ?_
  rintro e v1 ⟨rfl, hb⟩
  have S1 := Lib.hid (S0.out.below hb)
  clear hb S0
  rw [HCK.out]
  obtain ⟨c0, c1⟩ := S1.out.1.1.cells
  go_wp2_with fail
  go_loop [7] (fun i => ∃ k : Nat, k ≤ n ∧ i = .int .i64 k ∧ Hid (∀ j, j < k → (f j).1 < p)) (fun i => n - (intOf i).toNat)
  case atStart => exact ⟨0, by omega, rfl, Lib.hid fun j hj => absurd hj (by omega)⟩
  case round =>
    obtain ⟨k, hk, rfl, HP⟩ := hrel
    by_cases hlt : k < n
    · obtain ⟨q0, q1⟩ := S1.out.1.2.1.at (i := k) hlt
      obtain ⟨s0, hs0⟩ : ∃ s0, (f k).1 = s0 := ⟨_, rfl⟩
      rw [hs0] at q0
      have HS0 := Lib.hid hs0
      clear hs0 q1
      by_cases hsp : s0 < p
      · have d3 : decide (s0 < p) = true := decide_eq_true hsp
        go_wp2_with fail
        go_round
        case rel => exact ⟨k + 1, by omega, by go_num, Lib.hid fun j hj => by
          rcases Nat.lt_or_eq_of_le (Nat.lt_succ_iff.1 hj) with h2 | rfl
          · exact HP.out j h2
          · rw [HS0.out]; exact hsp⟩
        case measure => simp [intOf]; omega
      · have d3 : decide (s0 < p) = false := decide_eq_false hsp
        have k0 : 0 < k := by
          rcases Nat.eq_zero_or_pos k with rfl | h2
          · have := HZ0.out; have := HS0.out; omega
          · exact h2
        obtain ⟨j, rfl⟩ : ∃ j, k = j + 1 := ⟨k - 1, by omega⟩
        have e0 : (((j + 1 : Nat) : Int) == 0) = false := by simp; omega
        have e1 : (((j : Nat) : Int) + 1 == 0) = false := by simp; omega
        have e2 : ((j : Nat) : Int) + 1 < (n : Int) := by omega
        have e3 : decide (((j : Nat) : Int) + 1 < (n : Int)) = true := decide_eq_true e2
        by_cases hse : s0 = p
        · have d4 : (s0 == p) = true := by simpa using hse
          clear hse
          go_wp2_with fail
          refine (awake9_any v1 S1.out.vn).mono ?_
          rintro e v2 ⟨rfl, hb⟩
          have S2 := Lib.hid (S1.out.below hb)
          clear hb
          go_wp2_with fail
          go_ret
          exact ⟨rfl, S2.out.1.2.2⟩
        · have d4 : (s0 == p) = false := by simpa using hse
          have hps : p < s0 := by omega
          have HPS := Lib.hid hps
          obtain ⟨q, hq⟩ : ∃ q, (f j).2 = q := ⟨_, rfl⟩
          obtain ⟨_, y1⟩ := S1.out.1.2.1.at (i := j) (by omega)
          rw [hq] at y1
          have k4 : IntKind.i64.wrap ((j : Nat) : Int) = j := IntWalk.i64_in _ (by omega)
          have k5 : (j : Int) + 1 ≤ (c : Int) := by omega
          have k6 : (j : Int) + 1 ≤ (n : Int) := by omega
          have k7 : n ≤ c := hnc
          have k8 : 0 ≤ (j : Int) + 1 := by omega
          have k9 : 0 ≤ (j : Int) := by omega
          have k10 : (j : Int) < (n : Int) := by omega
          have k11 : IntKind.i64.wrap ((j : Int) + 1 - 1) = j := by rw [IntWalk.i64_in _ (by omega)]; omega
          have k12 : ¬(c = j + 1) := by omega
          have hwv : w.heap.size < v1.heap.size := S1.out.1.1.lt
          have hbv : b < v1.heap.size := S1.out.rd.blk (by omega)
          go_upto_region 8 with fail
          go_cut [8] from 68 to 89 (fun x8 wx => ∃ g cap : Nat, x8 = .slice (some ⟨g, 0, none⟩) (n + 1) cap ∧ Hid (wx.ownsRow v1.heap.size 36 2 (.slice (some ⟨g, 0, none⟩) (n + 1) cap) (n + 1) (segs (ins f (j + 1) (p, q)) (n + 1)) ∧ Below v1.heap.size v1 wx))
          case first =>
            obtain ⟨i0, hi, hz0, hz1, hz2⟩ := Oc.info_parts infoS
            go_region_held3 (fun w' => w'.cell? ⟨w.heap.size, 0, none⟩ = some (.int .i64 ph) ∧ w'.cell? ⟨w.heap.size, 1, none⟩ = some (.slice (some ⟨b, off, none⟩) n c) ∧ w'.cell? ⟨b, off + j * 2 + 1, none⟩ = some (.int .i64 q)) (go_keep)
              (first
                | ((refine step_app _ (by rfl) (.tmp 68) (.tmp 72) _ (by rfl) v1.heap.size 36 i0 (.agg #[.int .i64 0, .int .i64 0]) 2 16 Tryd.underlying22 hi hz0 hz1 hz2 (by rfl) (by decide) (.slice (some ⟨_, 0, none⟩) 0 0) 0 [] (by rfl) (by ((repeat (first | assumption | exact Hid.out (by assumption) | ((with_reducible refine Oc.own_new ?_ ?_) <;> (first | omega | rfl | (simp; done))) | with_reducible refine Oc.own_drew ?_ | with_reducible refine Oc.own_alloc ?_)); fail_if_success (focus skip))) ⟨b, off, none⟩ (j + 1) c (segs f (j + 1)) (by rfl) (segs_len _ _) (news0 (Rd2.below S1.out.rd (by ((repeat (first | with_reducible refine Below.drew ?_ | with_reducible refine Oc.bl_alloc ?_ | exact Hid.out (by assumption) | exact Below.refl _ _)); fail_if_success (focus skip)))) (j + 1) (by omega)) (segs_one _ _) (by omega) (by have : maxLen = 9223372036854775807 := rfl; omega) (by omega) (Below.size (B := v1.heap.size) (w := v1) (by ((repeat (first | with_reducible refine Below.drew ?_ | with_reducible refine Oc.bl_alloc ?_ | exact Hid.out (by assumption) | exact Below.refl _ _)); fail_if_success (focus skip)))) (j + 1) (segs f (j + 1)) (by omega) (by rfl) ?_; intro g1 cap1 w1 hown hgrow hlt; have HB1 : Hid (Below v1.heap.size v1 w1) := Lib.hid (bl_grown (by ((repeat (first | with_reducible refine Below.drew ?_ | with_reducible refine Oc.bl_alloc ?_ | exact Hid.out (by assumption) | exact Below.refl _ _)); fail_if_success (focus skip))) hgrow (by simp)); have HO1 := Lib.hid hown; (first | (have NB : Hid (w1.heap[v1.heap.size + 1]? = some (.cells #[.int .i64 p, .int .i64 q] 36 (0, 0))) := Lib.hid (bk_grown (by ((repeat (first | with_reducible refine Oc.bk_drew ?_ | ((with_reducible refine Oc.bk_new ?_) <;> (first | rfl | (simp; done))) | with_reducible refine Oc.bk_alloc ?_ | exact Hid.out (by assumption))); fail_if_success (focus skip))) hgrow (by simp))) | (have NB : Hid (w1.heap[v1.heap.size]? = some (.cells #[.int .i64 p, .int .i64 q] 36 (0, 0))) := Lib.hid (bk_grown (by ((repeat (first | with_reducible refine Oc.bk_drew ?_ | ((with_reducible refine Oc.bk_new ?_) <;> (first | rfl | (simp; done))) | with_reducible refine Oc.bk_alloc ?_ | exact Hid.out (by assumption))); fail_if_success (focus skip))) hgrow (by simp))) | skip); have x0 : w1.cell? ⟨w.heap.size, 0, none⟩ = some (.int .i64 ph) := (HB1.out.cell (p := ⟨w.heap.size, 0, none⟩) hwv).trans c0; have x1 : w1.cell? ⟨w.heap.size, 1, none⟩ = some (.slice (some ⟨b, off, none⟩) n c) := (HB1.out.cell (p := ⟨w.heap.size, 1, none⟩) hwv).trans c1; have x2 : w1.cell? ⟨b, off + j * 2 + 1, none⟩ = some (.int .i64 q) := (HB1.out.cell (p := ⟨b, off + j * 2 + 1, none⟩) hbv).trans y1; clear hown hgrow hlt))
                | ((refine step_app _ (by rfl) (.tmp 73) (.tmp 83) _ (by rfl) v1.heap.size 36 i0 (.agg #[.int .i64 0, .int .i64 0]) 2 16 Tryd.underlying22 hi hz0 hz1 hz2 (by rfl) (by decide) (.slice (some ⟨_, 0, none⟩) (j + 1) _) (j + 1) (segs f (j + 1)) (by rfl) (by ((repeat (first | assumption | exact Hid.out (by assumption) | ((with_reducible refine Oc.own_new ?_ ?_) <;> (first | omega | rfl | (simp; done))) | with_reducible refine Oc.own_drew ?_ | with_reducible refine Oc.own_alloc ?_)); fail_if_success (focus skip))) ⟨_, 0, none⟩ 1 1 [.int .i64 p, .int .i64 q] (by rfl) (by rfl) (World.news_of_block (cs := #[.int .i64 p, .int .i64 q]) (t := 36) (fr := (0, 0)) (by ((repeat (first | with_reducible refine Oc.bk_drew ?_ | ((with_reducible refine Oc.bk_new ?_) <;> (first | rfl | (simp; done))) | with_reducible refine Oc.bk_alloc ?_ | exact Hid.out (by assumption))); fail_if_success (focus skip)))) (by simp [Value.oneCell']) (by omega) (by have : maxLen = 9223372036854775807 := rfl; omega) (by omega) (Below.size (B := v1.heap.size) (w := v1) (by ((repeat (first | with_reducible refine Below.drew ?_ | with_reducible refine Oc.bl_alloc ?_ | exact Hid.out (by assumption) | exact Below.refl _ _)); fail_if_success (focus skip)))) (j + 2) (segs f (j + 1) ++ [.int .i64 p, .int .i64 q]) (by omega) (by rfl) ?_; intro g2 cap2 w2 hown hgrow hlt; have HB2 : Hid (Below v1.heap.size v1 w2) := Lib.hid (bl_grown (by ((repeat (first | with_reducible refine Below.drew ?_ | with_reducible refine Oc.bl_alloc ?_ | exact Hid.out (by assumption) | exact Below.refl _ _)); fail_if_success (focus skip))) hgrow (own_ge HO1.out)); have HO2 := Lib.hid hown; have x0 : w2.cell? ⟨w.heap.size, 0, none⟩ = some (.int .i64 ph) := (HB2.out.cell (p := ⟨w.heap.size, 0, none⟩) hwv).trans c0; have x1 : w2.cell? ⟨w.heap.size, 1, none⟩ = some (.slice (some ⟨b, off, none⟩) n c) := (HB2.out.cell (p := ⟨w.heap.size, 1, none⟩) hwv).trans c1; have x2 : w2.cell? ⟨b, off + j * 2 + 1, none⟩ = some (.int .i64 q) := (HB2.out.cell (p := ⟨b, off + j * 2 + 1, none⟩) hbv).trans y1; clear hown hgrow hlt))
                | ((refine step_app _ (by rfl) (.tmp 84) (.tmp 88) _ (by rfl) v1.heap.size 36 i0 (.agg #[.int .i64 0, .int .i64 0]) 2 16 Tryd.underlying22 hi hz0 hz1 hz2 (by rfl) (by decide) (.slice (some ⟨_, 0, none⟩) (j + 2) _) (j + 2) (segs f (j + 1) ++ [.int .i64 p, .int .i64 q]) (by rfl) (by ((repeat (first | assumption | exact Hid.out (by assumption) | ((with_reducible refine Oc.own_new ?_ ?_) <;> (first | omega | rfl | (simp; done))) | with_reducible refine Oc.own_drew ?_ | with_reducible refine Oc.own_alloc ?_)); fail_if_success (focus skip))) ⟨b, off + (j + 1) * 2, none⟩ (n - (j + 1)) (c - (j + 1)) (segs (fun i => f (j + 1 + i)) (n - (j + 1))) (by rfl) (segs_len _ _) (segs_news (Rd2.below S1.out.rd (by ((repeat (first | with_reducible refine Below.drew ?_ | with_reducible refine Oc.bl_alloc ?_ | exact Hid.out (by assumption) | exact Below.refl _ _)); fail_if_success (focus skip)))) (j + 1) (n - (j + 1)) (by omega)) (segs_one _ _) (by omega) (by have : maxLen = 9223372036854775807 := rfl; omega) (by omega) (Below.size (B := v1.heap.size) (w := v1) (by ((repeat (first | with_reducible refine Below.drew ?_ | with_reducible refine Oc.bl_alloc ?_ | exact Hid.out (by assumption) | exact Below.refl _ _)); fail_if_success (focus skip)))) (n + 1) (segs (ins f (j + 1) (p, q)) (n + 1)) (by omega) (segs_ins f (j + 1) n (p, q) (by omega)) ?_; intro g3 cap3 w3 hown hgrow hlt; have HB3 : Hid (Below v1.heap.size v1 w3) := Lib.hid (bl_grown (by ((repeat (first | with_reducible refine Below.drew ?_ | with_reducible refine Oc.bl_alloc ?_ | exact Hid.out (by assumption) | exact Below.refl _ _)); fail_if_success (focus skip))) hgrow (own_ge HO2.out)); have HO3 := Lib.hid hown; have x0 : w3.cell? ⟨w.heap.size, 0, none⟩ = some (.int .i64 ph) := (HB3.out.cell (p := ⟨w.heap.size, 0, none⟩) hwv).trans c0; have x1 : w3.cell? ⟨w.heap.size, 1, none⟩ = some (.slice (some ⟨b, off, none⟩) n c) := (HB3.out.cell (p := ⟨w.heap.size, 1, none⟩) hwv).trans c1; have x2 : w3.cell? ⟨b, off + j * 2 + 1, none⟩ = some (.int .i64 q) := (HB3.out.cell (p := ⟨b, off + j * 2 + 1, none⟩) hbv).trans y1; clear hown hgrow hlt)))
            all_goals (go_wp2_with fail; go_meet; exact ⟨g3, cap3, rfl, Lib.hid ⟨HO3.out, HB3.out⟩⟩)
          case rest =>
            obtain ⟨g, cap, rfl, HR⟩ := hcut
            have HQ := Lib.hid hq
            have HL : Hid ((f j).1 < p) := Lib.hid (HP.out j (by omega))
            have HRR : Hid (j + 1 < n → p < (f (j + 1)).1) := Lib.hid (fun _ => by rw [HS0.out]; exact HPS.out)
            have HJ : Hid (j < n) := Lib.hid (by omega)
            have S2 := Lib.hid (S1.out.below HR.out.2)
            have B1 := Lib.hid HR.out.2
            clear c0 c1 q0 y1 hq
            obtain ⟨m0, hm0⟩ : ∃ m, rdV ph n f t = m := ⟨_, rfl⟩
            obtain ⟨r0, hr0⟩ : ∃ m, rdE ph n f t = m := ⟨_, rfl⟩
            have HE1 := Lib.hid (spl_rd HVd.out hn HJ.out t hp0 hp1 HQ.out HL.out HRR.out)
            rw [hm0, hr0] at HE1
            have HMR := Lib.hid (And.intro hm0 hr0)
            clear hm0 hr0
            obtain ⟨c0, c1⟩ := S2.out.1.1.cells
            have RW := Lib.hid HR.out.1
            have HG : Hid (v1.heap.size ≤ g ∧ w.heap.size < v1.heap.size) := Lib.hid ⟨own_ge RW.out, hwv⟩
            have SZ := Lib.hid (hwv)
            clear HR
            go_wp2_with fail
            refine (ord_any ph (some ⟨b, off, none⟩) n c f t wc S2.out.vn S2.out.rd HM.out).mono ?_
            rintro e v2 ⟨rfl, hb⟩
            have S3 := Lib.hid (S2.out.below hb)
            have B2 := Lib.hid (B1.out.trans (hb.mono B1.out.size))
            have RW3 := Lib.hid (own_below RW.out hb)
            clear hb S2 RW c0 c1
            rw [HMR.out.1, HMR.out.2]
            obtain ⟨c0, c1⟩ := S3.out.1.1.cells
            go_wp2_with fail
            refine (ord_any ph (some ⟨g, 0, none⟩) (n + 1) cap (ins f (j + 1) (p, q)) t v2 S3.out.vn (row_reads RW3.out) (by omega)).mono ?_
            rintro e v3 ⟨rfl, hb⟩
            have S4 := Lib.hid (S3.out.below hb)
            have RW4 := Lib.hid (own_below RW3.out hb)
            have B3 := Lib.hid (B2.out.trans (hb.mono B2.out.size))
            clear hb S3 RW3 c0 c1
            rw [HE1.out.1, HE1.out.2]
            obtain ⟨c0, c1⟩ := S4.out.1.1.cells
            by_cases htp : t ≤ p
            · have d5 : decide (t ≤ p) = true := decide_eq_true htp
              have hqb := (HVd.out.ok j HJ.out).2
              rw [HQ.out] at hqb
              have kq : IntKind.i64.wrap (-q) = -q := IntWalk.i64_in _ (by omega)
              have y2 : v3.cell? ⟨g, (j + 1) * 2 + 1, none⟩ = some (.int .i64 q) := by
                rw [RW4.out.cellAt _ (by omega), (segs_at (ins f (j + 1) (p, q)) (k := n + 1) (i := j + 1) (by omega)).2, ins_eq]
              have y3 : v3.frozen? ⟨g, (j + 1) * 2 + 1, none⟩ = false := own_frozen RW4.out _
              have e4 : (j : Int) + 1 < (n : Int) + 1 := by omega
              have e5 : decide ((j : Int) + 1 < (n : Int) + 1) = true := decide_eq_true e4
              have e6 : j + 1 < n + 1 := by omega
              have e7 : (j : Int) + 1 < ((n + 1 : Nat) : Int) := by omega
              obtain ⟨Z, hZ⟩ : ∃ Z, v3.setCell ⟨g, (j + 1) * 2 + 1, none⟩ (.int .i64 (-q)) = Z := ⟨_, rfl⟩
              have HZB : Hid (Below v1.heap.size v3 Z) := Lib.hid (by rw [← hZ]; exact (Below.refl _ _).setCell HG.out.1 _)
              have S5 := Lib.hid (S1.out.below (B3.out.trans HZB.out))
              have R5 : Hid (Rd2 Z Z.heap.size (some ⟨g, 0, none⟩) (n + 1) (ins f (j + 1) (p, -q))) := Lib.hid (by
                have := row_turn (x := -q) RW4.out HJ.out
                rw [hZ] at this
                exact this.mono HZB.out.size)
              obtain ⟨z0, z1⟩ := S5.out.1.1.cells
              have HE2 := Lib.hid (spl_rd2 HVd.out hn HJ.out htp hp0 hp1 HQ.out HL.out HRR.out)
              rw [HMR.out.1, HMR.out.2] at HE2
              clear hqb
              go_wp2_with fail
              clear hZ
              refine (ord_any ph (some ⟨g, 0, none⟩) (n + 1) cap (ins f (j + 1) (p, -q)) t Z S5.out.vn R5.out (by omega)).mono ?_
              rintro e v4 ⟨rfl, hb⟩
              have S6 := Lib.hid (S5.out.below hb)
              rw [HE2.out.1, HE2.out.2]
              clear hb S5 R5 z0 z1
              go_wp2_with fail
              refine (awake9_any v4 S6.out.vn).mono ?_
              rintro e v5 ⟨rfl, hb⟩
              have S7 := Lib.hid (S6.out.below hb)
              clear hb
              go_wp2_with fail
              go_ret
              exact ⟨rfl, S7.out.1.2.2⟩
            · have d5 : decide (t ≤ p) = false := decide_eq_false htp
              go_wp2_with fail
              refine (awake9_any v3 S4.out.vn).mono ?_
              rintro e v4 ⟨rfl, hb⟩
              have S5 := Lib.hid (S4.out.below hb)
              clear hb
              go_wp2_with fail
              go_ret
              exact ⟨rfl, S5.out.1.2.2⟩
    · have k0 : 0 < k := by omega
      obtain ⟨j, rfl⟩ : ∃ j, k = j + 1 := ⟨k - 1, by omega⟩
      have hkn : n = j + 1 := by omega
      have HKN := Lib.hid hkn
      clear hkn
      have e0 : (((j + 1 : Nat) : Int) == 0) = false := by simp; omega
      have e1 : (((j : Nat) : Int) + 1 == 0) = false := by simp; omega
      have e2 : ¬ ((j : Nat) : Int) + 1 < (n : Int) := by omega
      have e3 : decide (((j : Nat) : Int) + 1 < (n : Int)) = false := decide_eq_false e2
      obtain ⟨q, hq⟩ : ∃ q, (f j).2 = q := ⟨_, rfl⟩
      obtain ⟨_, y1⟩ := S1.out.1.2.1.at (i := j) (by omega)
      rw [hq] at y1
      have k4 : IntKind.i64.wrap ((j : Nat) : Int) = j := IntWalk.i64_in _ (by omega)
      have k5 : (j : Int) + 1 ≤ (c : Int) := by have := HKN.out; omega
      have k6 : (j : Int) + 1 ≤ (n : Int) := by have := HKN.out; omega
      have k7 : n ≤ c := hnc
      have k8 : 0 ≤ (j : Int) + 1 := by have := HKN.out; omega
      have k9 : 0 ≤ (j : Int) := by have := HKN.out; omega
      have k10 : (j : Int) < (n : Int) := by have := HKN.out; omega
      have k11 : IntKind.i64.wrap ((j : Int) + 1 - 1) = j := by rw [IntWalk.i64_in _ (by omega)]; omega
      have hwv : w.heap.size < v1.heap.size := S1.out.1.1.lt
      have hbv : b < v1.heap.size := S1.out.rd.blk (by omega)
      go_upto_region 8 with fail
      go_cut [8] from 68 to 89 (fun x8 wx => ∃ g cap : Nat, x8 = .slice (some ⟨g, 0, none⟩) (n + 1) cap ∧ Hid (wx.ownsRow v1.heap.size 36 2 (.slice (some ⟨g, 0, none⟩) (n + 1) cap) (n + 1) (segs (ins f (j + 1) (p, q)) (n + 1)) ∧ Below v1.heap.size v1 wx))
      case first =>
        obtain ⟨i0, hi, hz0, hz1, hz2⟩ := Oc.info_parts infoS
        go_region_held3 (fun w' => w'.cell? ⟨w.heap.size, 0, none⟩ = some (.int .i64 ph) ∧ w'.cell? ⟨w.heap.size, 1, none⟩ = some (.slice (some ⟨b, off, none⟩) n c) ∧ w'.cell? ⟨b, off + j * 2 + 1, none⟩ = some (.int .i64 q)) (go_keep)
          (first
            | ((refine step_app _ (by rfl) (.tmp 68) (.tmp 72) _ (by rfl) v1.heap.size 36 i0 (.agg #[.int .i64 0, .int .i64 0]) 2 16 Tryd.underlying22 hi hz0 hz1 hz2 (by rfl) (by decide) (.slice (some ⟨_, 0, none⟩) 0 0) 0 [] (by rfl) (by ((repeat (first | assumption | exact Hid.out (by assumption) | ((with_reducible refine Oc.own_new ?_ ?_) <;> (first | omega | rfl | (simp; done))) | with_reducible refine Oc.own_drew ?_ | with_reducible refine Oc.own_alloc ?_)); fail_if_success (focus skip))) ⟨b, off, none⟩ (j + 1) c (segs f (j + 1)) (by rfl) (segs_len _ _) (news0 (Rd2.below S1.out.rd (by ((repeat (first | with_reducible refine Below.drew ?_ | with_reducible refine Oc.bl_alloc ?_ | exact Hid.out (by assumption) | exact Below.refl _ _)); fail_if_success (focus skip)))) (j + 1) (by omega)) (segs_one _ _) (by omega) (by have : maxLen = 9223372036854775807 := rfl; omega) (by omega) (Below.size (B := v1.heap.size) (w := v1) (by ((repeat (first | with_reducible refine Below.drew ?_ | with_reducible refine Oc.bl_alloc ?_ | exact Hid.out (by assumption) | exact Below.refl _ _)); fail_if_success (focus skip)))) (j + 1) (segs f (j + 1)) (by omega) (by rfl) ?_; intro g1 cap1 w1 hown hgrow hlt; have HB1 : Hid (Below v1.heap.size v1 w1) := Lib.hid (bl_grown (by ((repeat (first | with_reducible refine Below.drew ?_ | with_reducible refine Oc.bl_alloc ?_ | exact Hid.out (by assumption) | exact Below.refl _ _)); fail_if_success (focus skip))) hgrow (by simp)); have HO1 := Lib.hid hown; (first | (have NB : Hid (w1.heap[v1.heap.size + 1]? = some (.cells #[.int .i64 p, .int .i64 q] 36 (0, 0))) := Lib.hid (bk_grown (by ((repeat (first | with_reducible refine Oc.bk_drew ?_ | ((with_reducible refine Oc.bk_new ?_) <;> (first | rfl | (simp; done))) | with_reducible refine Oc.bk_alloc ?_ | exact Hid.out (by assumption))); fail_if_success (focus skip))) hgrow (by simp))) | (have NB : Hid (w1.heap[v1.heap.size]? = some (.cells #[.int .i64 p, .int .i64 q] 36 (0, 0))) := Lib.hid (bk_grown (by ((repeat (first | with_reducible refine Oc.bk_drew ?_ | ((with_reducible refine Oc.bk_new ?_) <;> (first | rfl | (simp; done))) | with_reducible refine Oc.bk_alloc ?_ | exact Hid.out (by assumption))); fail_if_success (focus skip))) hgrow (by simp))) | skip); have x0 : w1.cell? ⟨w.heap.size, 0, none⟩ = some (.int .i64 ph) := (HB1.out.cell (p := ⟨w.heap.size, 0, none⟩) hwv).trans c0; have x1 : w1.cell? ⟨w.heap.size, 1, none⟩ = some (.slice (some ⟨b, off, none⟩) n c) := (HB1.out.cell (p := ⟨w.heap.size, 1, none⟩) hwv).trans c1; have x2 : w1.cell? ⟨b, off + j * 2 + 1, none⟩ = some (.int .i64 q) := (HB1.out.cell (p := ⟨b, off + j * 2 + 1, none⟩) hbv).trans y1; clear hown hgrow hlt))
            | ((refine step_app _ (by rfl) (.tmp 73) (.tmp 83) _ (by rfl) v1.heap.size 36 i0 (.agg #[.int .i64 0, .int .i64 0]) 2 16 Tryd.underlying22 hi hz0 hz1 hz2 (by rfl) (by decide) (.slice (some ⟨_, 0, none⟩) (j + 1) _) (j + 1) (segs f (j + 1)) (by rfl) (by ((repeat (first | assumption | exact Hid.out (by assumption) | ((with_reducible refine Oc.own_new ?_ ?_) <;> (first | omega | rfl | (simp; done))) | with_reducible refine Oc.own_drew ?_ | with_reducible refine Oc.own_alloc ?_)); fail_if_success (focus skip))) ⟨_, 0, none⟩ 1 1 [.int .i64 p, .int .i64 q] (by rfl) (by rfl) (World.news_of_block (cs := #[.int .i64 p, .int .i64 q]) (t := 36) (fr := (0, 0)) (by ((repeat (first | with_reducible refine Oc.bk_drew ?_ | ((with_reducible refine Oc.bk_new ?_) <;> (first | rfl | (simp; done))) | with_reducible refine Oc.bk_alloc ?_ | exact Hid.out (by assumption))); fail_if_success (focus skip)))) (by simp [Value.oneCell']) (by omega) (by have : maxLen = 9223372036854775807 := rfl; omega) (by omega) (Below.size (B := v1.heap.size) (w := v1) (by ((repeat (first | with_reducible refine Below.drew ?_ | with_reducible refine Oc.bl_alloc ?_ | exact Hid.out (by assumption) | exact Below.refl _ _)); fail_if_success (focus skip)))) (j + 2) (segs f (j + 1) ++ [.int .i64 p, .int .i64 q]) (by omega) (by rfl) ?_; intro g2 cap2 w2 hown hgrow hlt; have HB2 : Hid (Below v1.heap.size v1 w2) := Lib.hid (bl_grown (by ((repeat (first | with_reducible refine Below.drew ?_ | with_reducible refine Oc.bl_alloc ?_ | exact Hid.out (by assumption) | exact Below.refl _ _)); fail_if_success (focus skip))) hgrow (own_ge HO1.out)); have HO2 := Lib.hid hown; have x0 : w2.cell? ⟨w.heap.size, 0, none⟩ = some (.int .i64 ph) := (HB2.out.cell (p := ⟨w.heap.size, 0, none⟩) hwv).trans c0; have x1 : w2.cell? ⟨w.heap.size, 1, none⟩ = some (.slice (some ⟨b, off, none⟩) n c) := (HB2.out.cell (p := ⟨w.heap.size, 1, none⟩) hwv).trans c1; have x2 : w2.cell? ⟨b, off + j * 2 + 1, none⟩ = some (.int .i64 q) := (HB2.out.cell (p := ⟨b, off + j * 2 + 1, none⟩) hbv).trans y1; clear hown hgrow hlt))
            | ((refine step_app0 _ (by rfl) (.tmp 84) (.tmp 88) _ (by rfl) 36 i0 2 Tryd.underlying22 hi hz1 v1.heap.size _ (j + 2) _ (segs f (j + 1) ++ [.int .i64 p, .int .i64 q]) (by rfl) (by ((repeat (first | assumption | exact Hid.out (by assumption) | ((with_reducible refine Oc.own_new ?_ ?_) <;> (first | omega | rfl | (simp; done))) | with_reducible refine Oc.own_drew ?_ | with_reducible refine Oc.own_alloc ?_)); fail_if_success (focus skip))) (if c = j + 1 then ⟨b, off, none⟩ else ⟨b, off + (j + 1) * 2, none⟩) (n - (j + 1)) (c - (j + 1)) (if_slice _ _ _ _) (by have := HKN.out; omega) (n + 1) (segs (ins f (j + 1) (p, q)) (n + 1)) (by have := HKN.out; omega) (spl_last HKN.out) ?_; intro hown; have HO3 := Lib.hid hown; clear hown)))
        all_goals ((go_wp2_with fail) <;> (by_cases hcj : c = j + 1 <;> first | (exfalso; omega) | skip) <;> ((try subst hcj); go_meet; exact ⟨g2, cap2, rfl, Lib.hid ⟨(by ((repeat (first | assumption | exact Hid.out (by assumption) | ((with_reducible refine Oc.own_new ?_ ?_) <;> (first | omega | rfl | (simp; done))) | with_reducible refine Oc.own_drew ?_ | with_reducible refine Oc.own_alloc ?_)); fail_if_success (focus skip))), (by ((repeat (first | with_reducible refine Below.drew ?_ | with_reducible refine Oc.bl_alloc ?_ | exact Hid.out (by assumption) | exact Below.refl _ _)); fail_if_success (focus skip)))⟩⟩))
      case rest =>
        obtain ⟨g, cap, rfl, HR⟩ := hcut
        have HQ := Lib.hid hq
        have HL : Hid ((f j).1 < p) := Lib.hid (HP.out j (by omega))
        have HRR : Hid (j + 1 < n → p < (f (j + 1)).1) := Lib.hid (fun hh => absurd hh (by have := HKN.out; omega))
        have HJ : Hid (j < n) := Lib.hid (by omega)
        have S2 := Lib.hid (S1.out.below HR.out.2)
        have B1 := Lib.hid HR.out.2
        clear c0 c1 y1 hq
        obtain ⟨m0, hm0⟩ : ∃ m, rdV ph n f t = m := ⟨_, rfl⟩
        obtain ⟨r0, hr0⟩ : ∃ m, rdE ph n f t = m := ⟨_, rfl⟩
        have HE1 := Lib.hid (spl_rd HVd.out hn HJ.out t hp0 hp1 HQ.out HL.out HRR.out)
        rw [hm0, hr0] at HE1
        have HMR := Lib.hid (And.intro hm0 hr0)
        clear hm0 hr0
        obtain ⟨c0, c1⟩ := S2.out.1.1.cells
        have RW := Lib.hid HR.out.1
        have HG : Hid (v1.heap.size ≤ g ∧ w.heap.size < v1.heap.size) := Lib.hid ⟨own_ge RW.out, hwv⟩
        have SZ := Lib.hid (hwv)
        clear HR
        go_wp2_with fail
        refine (ord_any ph (some ⟨b, off, none⟩) n c f t wc S2.out.vn S2.out.rd HM.out).mono ?_
        rintro e v2 ⟨rfl, hb⟩
        have S3 := Lib.hid (S2.out.below hb)
        have B2 := Lib.hid (B1.out.trans (hb.mono B1.out.size))
        have RW3 := Lib.hid (own_below RW.out hb)
        clear hb S2 RW c0 c1
        rw [HMR.out.1, HMR.out.2]
        obtain ⟨c0, c1⟩ := S3.out.1.1.cells
        go_wp2_with fail
        refine (ord_any ph (some ⟨g, 0, none⟩) (n + 1) cap (ins f (j + 1) (p, q)) t v2 S3.out.vn (row_reads RW3.out) (by omega)).mono ?_
        rintro e v3 ⟨rfl, hb⟩
        have S4 := Lib.hid (S3.out.below hb)
        have RW4 := Lib.hid (own_below RW3.out hb)
        have B3 := Lib.hid (B2.out.trans (hb.mono B2.out.size))
        clear hb S3 RW3 c0 c1
        rw [HE1.out.1, HE1.out.2]
        obtain ⟨c0, c1⟩ := S4.out.1.1.cells
        by_cases htp : t ≤ p
        · have d5 : decide (t ≤ p) = true := decide_eq_true htp
          have hqb := (HVd.out.ok j HJ.out).2
          rw [HQ.out] at hqb
          have kq : IntKind.i64.wrap (-q) = -q := IntWalk.i64_in _ (by omega)
          have y2 : v3.cell? ⟨g, (j + 1) * 2 + 1, none⟩ = some (.int .i64 q) := by
            rw [RW4.out.cellAt _ (by omega), (segs_at (ins f (j + 1) (p, q)) (k := n + 1) (i := j + 1) (by omega)).2, ins_eq]
          have y3 : v3.frozen? ⟨g, (j + 1) * 2 + 1, none⟩ = false := own_frozen RW4.out _
          have e4 : (j : Int) + 1 < (n : Int) + 1 := by have := HKN.out; omega
          have e5 : decide ((j : Int) + 1 < (n : Int) + 1) = true := decide_eq_true e4
          have e6 : j + 1 < n + 1 := by have := HKN.out; omega
          have e7 : (j : Int) + 1 < ((n + 1 : Nat) : Int) := by have := HKN.out; omega
          obtain ⟨Z, hZ⟩ : ∃ Z, v3.setCell ⟨g, (j + 1) * 2 + 1, none⟩ (.int .i64 (-q)) = Z := ⟨_, rfl⟩
          have HZB : Hid (Below v1.heap.size v3 Z) := Lib.hid (by rw [← hZ]; exact (Below.refl _ _).setCell HG.out.1 _)
          have S5 := Lib.hid (S1.out.below (B3.out.trans HZB.out))
          have R5 : Hid (Rd2 Z Z.heap.size (some ⟨g, 0, none⟩) (n + 1) (ins f (j + 1) (p, -q))) := Lib.hid (by
            have := row_turn (x := -q) RW4.out HJ.out
            rw [hZ] at this
            exact this.mono HZB.out.size)
          obtain ⟨z0, z1⟩ := S5.out.1.1.cells
          have HE2 := Lib.hid (spl_rd2 HVd.out hn HJ.out htp hp0 hp1 HQ.out HL.out HRR.out)
          rw [HMR.out.1, HMR.out.2] at HE2
          clear hqb
          go_wp2_with fail
          clear hZ
          refine (ord_any ph (some ⟨g, 0, none⟩) (n + 1) cap (ins f (j + 1) (p, -q)) t Z S5.out.vn R5.out (by omega)).mono ?_
          rintro e v4 ⟨rfl, hb⟩
          have S6 := Lib.hid (S5.out.below hb)
          rw [HE2.out.1, HE2.out.2]
          clear hb S5 R5 z0 z1
          go_wp2_with fail
          refine (awake9_any v4 S6.out.vn).mono ?_
          rintro e v5 ⟨rfl, hb⟩
          have S7 := Lib.hid (S6.out.below hb)
          clear hb
          go_wp2_with fail
          go_ret
          exact ⟨rfl, S7.out.1.2.2⟩
        · have d5 : decide (t ≤ p) = false := decide_eq_false htp
          go_wp2_with fail
          refine (awake9_any v3 S4.out.vn).mono ?_
          rintro e v4 ⟨rfl, hb⟩
          have S5 := Lib.hid (S4.out.below hb)
          clear hb
          go_wp2_with fail
          go_ret
          exact ⟨rfl, S5.out.1.2.2⟩
set_option maxRecDepth 100000 in
set_option maxHeartbeats 1000000 in
theorem splits9_lo (ph : Int) (a : Option Addr) (n c : Nat) (f : Nat → Int × Int) (p t : Int) (w : World) (hv : VN w) (hr : Rd2 w w.heap.size a n f) (hm : n ≤ 9223372036854775807) (h : p < 1) :
    Calls Tryd.prog 8 #[.agg #[.int .i64 ph, .slice a n c], .int .i64 p, .int .i64 t] w fun e w' => e = .returned (.bool true) ∧ Below w.heap.size w w' := by
  have d0 : decide (p < 1) = true := decide_eq_true h
  have hb1 : Below w.heap.size w (w.alloc (.cells #[.int .i64 ph, .slice a n c] 24)) := (Below.refl _ _).alloc (Nat.le_refl _) _
  have hX1 := ox_new w ph a n c
  obtain ⟨v0, hvw⟩ : ∃ v, w.alloc (.cells #[.int .i64 ph, .slice a n c] 24) = v := ⟨_, rfl⟩
  rw [hvw] at hb1 hX1
  have S0 : Hid (Lw w w.heap.size ph a n c f v0) := Lib.hid ⟨⟨hX1, hr.below hb1, hb1⟩, hv.below hb1⟩
  obtain ⟨c0, c1⟩ := hX1.cells
  have hz := hb1.size
  have HM := Lib.hid hm
  clear hb1 hX1 hr hv
  go_enter Tryd.func8, Tryd.ntmps8
  go_wp2_with fail
  clear hvw c0 c1
  refine (awake9_any v0 S0.out.vn).mono ?_
  rintro e v1 ⟨rfl, hb⟩
  have S1 := Lib.hid (S0.out.below hb)
  clear hb S0
  go_wp2_with fail
  go_ret
  exact ⟨rfl, S1.out.1.2.2⟩
set_option maxRecDepth 100000 in
set_option maxHeartbeats 1000000 in
theorem splits9_hi (ph : Int) (a : Option Addr) (n c : Nat) (f : Nat → Int × Int) (p t : Int) (w : World) (hv : VN w) (hr : Rd2 w w.heap.size a n f) (hm : n ≤ 9223372036854775807) (h : 1125899906842624 < p) :
    Calls Tryd.prog 8 #[.agg #[.int .i64 ph, .slice a n c], .int .i64 p, .int .i64 t] w fun e w' => e = .returned (.bool true) ∧ Below w.heap.size w w' := by
  have d0 : decide (p < 1) = false := decide_eq_false (by omega)
  have d1 : decide (1125899906842624 < p) = true := decide_eq_true h
  have hb1 : Below w.heap.size w (w.alloc (.cells #[.int .i64 ph, .slice a n c] 24)) := (Below.refl _ _).alloc (Nat.le_refl _) _
  have hX1 := ox_new w ph a n c
  obtain ⟨v0, hvw⟩ : ∃ v, w.alloc (.cells #[.int .i64 ph, .slice a n c] 24) = v := ⟨_, rfl⟩
  rw [hvw] at hb1 hX1
  have S0 : Hid (Lw w w.heap.size ph a n c f v0) := Lib.hid ⟨⟨hX1, hr.below hb1, hb1⟩, hv.below hb1⟩
  obtain ⟨c0, c1⟩ := hX1.cells
  have hz := hb1.size
  have HM := Lib.hid hm
  clear hb1 hX1 hr hv
  go_enter Tryd.func8, Tryd.ntmps8
  go_wp2_with fail
  clear hvw c0 c1
  refine (awake9_any v0 S0.out.vn).mono ?_
  rintro e v1 ⟨rfl, hb⟩
  have S1 := Lib.hid (S0.out.below hb)
  clear hb S0
  go_wp2_with fail
  go_ret
  exact ⟨rfl, S1.out.1.2.2⟩
set_option maxRecDepth 100000 in
set_option maxHeartbeats 1000000 in
theorem splits9_bad (ph : Int) (a : Option Addr) (n c : Nat) (f : Nat → Int × Int) (p t : Int) (w : World) (hv : VN w) (hr : Rd2 w w.heap.size a n f) (hm : n ≤ 9223372036854775807) (hp0 : 1 ≤ p) (hp1 : p ≤ 1125899906842624) (h : ¬ chk ph n f = 0) :
    Calls Tryd.prog 8 #[.agg #[.int .i64 ph, .slice a n c], .int .i64 p, .int .i64 t] w fun e w' => e = .returned (.bool true) ∧ Below w.heap.size w w' := by
  obtain ⟨E, hE⟩ : ∃ E, chk ph n f = E := ⟨_, rfl⟩
  rw [hE] at h
  have k1 : (E != 0) = true := by simpa using h
  have HE := Lib.hid hE
  have d0 : decide (p < 1) = false := decide_eq_false (by omega)
  have d1 : decide (1125899906842624 < p) = false := decide_eq_false (by omega)
  clear h hE
  have hb1 : Below w.heap.size w (w.alloc (.cells #[.int .i64 ph, .slice a n c] 24)) := (Below.refl _ _).alloc (Nat.le_refl _) _
  have hX1 := ox_new w ph a n c
  obtain ⟨v0, hvw⟩ : ∃ v, w.alloc (.cells #[.int .i64 ph, .slice a n c] 24) = v := ⟨_, rfl⟩
  rw [hvw] at hb1 hX1
  have S0 : Hid (Lw w w.heap.size ph a n c f v0) := Lib.hid ⟨⟨hX1, hr.below hb1, hb1⟩, hv.below hb1⟩
  obtain ⟨c0, c1⟩ := hX1.cells
  have hz := hb1.size
  have HM := Lib.hid hm
  clear hb1 hX1 hr hv
  go_enter Tryd.func8, Tryd.ntmps8
  go_wp2_with fail
  clear hvw c0 c1
  refine (ochk_any ph a n c f v0 S0.out.vn (S0.out.rd) HM.out).mono ?_
  rintro e v1 ⟨rfl, hb⟩
  have S1 := Lib.hid (S0.out.below hb)
  clear hb S0
  rw [HE.out]
  obtain ⟨c0, c1⟩ := S1.out.1.1.cells
  go_wp2_with fail
  clear c0 c1
  refine (awake9_any v1 S1.out.vn).mono ?_
  rintro e v2 ⟨rfl, hb⟩
  have S2 := Lib.hid (S1.out.below hb)
  clear hb S1
  go_wp2_with fail
  go_ret
  exact ⟨rfl, S2.out.1.2.2⟩
set_option maxRecDepth 100000 in
set_option maxHeartbeats 1000000 in
theorem splits9_full (ph : Int) (a : Option Addr) (n c : Nat) (f : Nat → Int × Int) (p t : Int) (w : World) (hv : VN w) (hr : Rd2 w w.heap.size a n f) (hm : n ≤ 9223372036854775807) (hp0 : 1 ≤ p) (hp1 : p ≤ 1125899906842624) (h : chk ph n f = 0) (hn : 16 ≤ n) :
    Calls Tryd.prog 8 #[.agg #[.int .i64 ph, .slice a n c], .int .i64 p, .int .i64 t] w fun e w' => e = .returned (.bool true) ∧ Below w.heap.size w w' := by
  have HE := Lib.hid h
  have d0 : decide (p < 1) = false := decide_eq_false (by omega)
  have d1 : decide (1125899906842624 < p) = false := decide_eq_false (by omega)
  have d2 : decide ((16 : Int) ≤ (n : Int)) = true := decide_eq_true (by omega)
  clear h
  have hb1 : Below w.heap.size w (w.alloc (.cells #[.int .i64 ph, .slice a n c] 24)) := (Below.refl _ _).alloc (Nat.le_refl _) _
  have hX1 := ox_new w ph a n c
  obtain ⟨v0, hvw⟩ : ∃ v, w.alloc (.cells #[.int .i64 ph, .slice a n c] 24) = v := ⟨_, rfl⟩
  rw [hvw] at hb1 hX1
  have S0 : Hid (Lw w w.heap.size ph a n c f v0) := Lib.hid ⟨⟨hX1, hr.below hb1, hb1⟩, hv.below hb1⟩
  obtain ⟨c0, c1⟩ := hX1.cells
  have hz := hb1.size
  have HM := Lib.hid hm
  clear hb1 hX1 hr hv
  go_enter Tryd.func8, Tryd.ntmps8
  go_wp2_with fail
  clear hvw c0 c1
  refine (ochk_any ph a n c f v0 S0.out.vn (S0.out.rd) HM.out).mono ?_
  rintro e v1 ⟨rfl, hb⟩
  have S1 := Lib.hid (S0.out.below hb)
  clear hb S0
  rw [HE.out]
  obtain ⟨c0, c1⟩ := S1.out.1.1.cells
  go_wp2_with fail
  clear c0 c1
  refine (awake9_any v1 S1.out.vn).mono ?_
  rintro e v2 ⟨rfl, hb⟩
  have S2 := Lib.hid (S1.out.below hb)
  clear hb S1
  go_wp2_with fail
  go_ret
  exact ⟨rfl, S2.out.1.2.2⟩
theorem splits9_law (ph : Int) (a : Option Addr) (n c : Nat) (f : Nat → Int × Int) (p t : Int) (w : World) (hv : VN w) (hr : Rd2 w w.heap.size a n f) (hm : n ≤ 9223372036854775807) (hnc : n ≤ c) :
    Calls Tryd.prog 8 #[.agg #[.int .i64 ph, .slice a n c], .int .i64 p, .int .i64 t] w fun e w' => e = .returned (.bool true) ∧ Below w.heap.size w w' := by
  by_cases h0 : p < 1
  · exact splits9_lo ph a n c f p t w hv hr hm h0
  by_cases h1 : 1125899906842624 < p
  · exact splits9_hi ph a n c f p t w hv hr hm h1
  by_cases h2 : chk ph n f = 0
  · by_cases h3 : 16 ≤ n
    · exact splits9_full ph a n c f p t w hv hr hm (by omega) (by omega) h2 h3
    · have hV := chk_iff.1 h2
      obtain ⟨b, off, rfl, hlt, hc⟩ := hr hV.n0
      exact splits9_go ph b off n c f p t w hv (fun _ => ⟨b, off, rfl, hlt, hc⟩) hm hnc hV (by omega) (by omega) (by omega)
  · exact splits9_bad ph a n c f p t w hv hr hm (by omega) (by omega) h2
end Go.Proofs.YtfhphgeanpmgaaaDoor
