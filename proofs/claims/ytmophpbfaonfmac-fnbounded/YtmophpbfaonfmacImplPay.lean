/- What impl.payAlong does: what is paid along a path, bucket by bucket. -/
import Derived.Test.YtmophpbfaonfmacImplLender
import Derived.Test.YtmophpbfaonfmacGrpO
namespace Go.Proofs.Ytmophpbfaonfmac
open Go.ChangeShapes Go.WideShapes Go.ChangeAt Go.RowKit Go.Shelf
set_option maxRecDepth 100000
set_option linter.unusedVariables false
set_option linter.unusedSimpArgs false
attribute [local go_sem] Oper.semAt_some

/-- What is paid along a list of classes. -/
def payL (n : Int) (X : List Q4) (L : List Int) : List Q4 := L.foldl (fun X c => modAt (takeOwn n) X c) X
theorem payL_snoc (n : Int) (X : List Q4) (L : List Int) (c : Int) : payL n X (L ++ [c]) = modAt (takeOwn n) (payL n X L) c := by unfold payL; rw [List.foldl_append]; rfl
theorem payL_length (n : Int) (X : List Q4) : ∀ L, (payL n X L).length = X.length := by
  intro L
  unfold payL
  induction L generalizing X with
  | nil => rfl
  | cons c L ih => rw [List.foldl_cons, ih, modAt_length]
theorem payL_levels {n : Int} (hn : 1 ≤ n ∧ n ≤ 1500) : ∀ (L : List Int) {X : List Q4}, LvlIn 0 1000000000000000000 X → LvlIn 0 1000000000000000000 (payL n X L)
  | [], X, h => h
  | c :: L, X, h => by
    show LvlIn _ _ (payL n (modAt (takeOwn n) X c) L)
    refine payL_levels hn L ?_
    unfold modAt
    split
    · rename_i q hq
      obtain ⟨hl, e⟩ := List.getElem?_eq_some_iff.1 hq
      have h0 := h _ hl
      rw [e] at h0
      refine h.set _ _ ?_
      simp only [takeOwn, lvlQ]
      omega
    · exact h
theorem QFill.kept' {W W' : World} {row : Option Nat} {g n k : Nat} {xs : List Q4} (f : QFill W g n xs k) (hg : W.grownBy W' row) (hr : ∀ r, row = some r → ∃ o : Obj, W.heap[r]? = some o ∧ o.isCells = false) : QFill W' g n xs k := by
  refine ⟨fun j hj => ?_, fun i hi hk => ?_⟩
  · obtain ⟨⟨z, hz⟩, hf⟩ := f.any j hj
    exact ⟨⟨z, cell_kept hz hg hr⟩, (frozen_kept hz hg hr).trans hf⟩
  · obtain ⟨a, b, c, d⟩ := f.got i hi hk
    exact ⟨cell_kept a hg hr, cell_kept b hg hr, cell_kept c hg hr, cell_kept d hg hr⟩
theorem ownFrom_onlyO {β : Type} {o : Option Nat} {w : World} {B : Nat} (hB : w.heap.size ≤ B) : OwnFrom B (fun (_ : β) W => OnlyO o w W) := fun _ A C row hs hg hr =>
  ⟨hg.os.trans hs.os, hg.tape.trans hs.tape, hg.output.trans hs.output, Nat.le_trans hs.size hg.size, fun k hk hn => (hg.block k (Nat.lt_of_lt_of_le hk hs.size) (fun e => by have := (hr k e.symm).1; omega)).trans (hs.block k hk hn)⟩
theorem OnlyO.next {o : Option Nat} {w W W' : World} (h : OnlyO o w W) (hb : Below W.heap.size W W') : OnlyO o w W' :=
  ⟨hb.os.trans h.os, hb.tape.trans h.tape, hb.output.trans h.output, Nat.le_trans h.size hb.size, fun k hk hn => (hb.block k (Nat.lt_of_lt_of_le hk h.size)).trans (h.block k hk hn)⟩
theorem OnlyO.put {g : Nat} {w W : World} (h : OnlyO (some g) w W) (o : Nat) (q : Q4) : OnlyO (some g) w (putQ W g o q) := by
  have k := putQ_only (x := q) (o := o) (Only.refl g W)
  exact ⟨k.os.trans h.os, k.tape.trans h.tape, k.output.trans h.output, Nat.le_trans h.size k.size, fun j hj hn => (k.block j (Nat.lt_of_lt_of_le hj h.size) (fun e => hn (by rw [e]))).trans (h.block j hj hn)⟩
/-- One bucket of a row is stored over. -/
theorem QFill.mod {W : World} {g : Nat} {X : List Q4} (f : QFill W g X.length X X.length) {k : Nat} (hk : k < X.length) (q : Q4) : QFill (putQ W g (k * 4) q) g X.length (X.set k q) X.length := by
  have h0 := f.got k hk hk
  have hp := putQ_same (w := W) (g := g) (o := k * 4) q h0.1 h0.2.1 h0.2.2.1 h0.2.2.2
  refine ⟨fun j hj => ?_, fun i hi hi2 => ?_⟩
  · refine ⟨?_, by rw [putQ_frozen]; exact (f.any j hj).2⟩
    by_cases e : j < k * 4 ∨ k * 4 + 3 < j
    · rw [putQ_other e]
      exact (f.any j hj).1
    · rcases (show j = k * 4 ∨ j = k * 4 + 1 ∨ j = k * 4 + 2 ∨ j = k * 4 + 3 by omega) with rfl | rfl | rfl | rfl
      · exact ⟨_, hp.1⟩
      · exact ⟨_, hp.2.1⟩
      · exact ⟨_, hp.2.2.1⟩
      · exact ⟨_, hp.2.2.2⟩
  · have hi' : i < X.length := by simpa using hi
    by_cases e : i = k
    · subst e
      rw [List.getElem_set_self]
      exact hp
    · rw [List.getElem_set_ne (fun e' => e e'.symm)]
      have h1 := f.got i hi' hi'
      rw [putQ_other (by omega), putQ_other (by omega), putQ_other (by omega), putQ_other (by omega)]
      exact h1
/-- What the iterator wants kept. -/
def KpQ (B Bt : Nat) (t : TypeId) (a : Option Addr) (ts : List Q4) (W W' : World) : Prop := (∀ v, Boxed W Bt t v → Boxed W' Bt t v) ∧ (Quad B W a ts → Quad B W' a ts)
theorem kpQ_t {B Bt : Nat} {t : TypeId} {a : Option Addr} {ts : List Q4} {U V X : World} (h : KpQ B Bt t a ts U V) (k : KpQ B Bt t a ts V X) : KpQ B Bt t a ts U X := ⟨fun v hv => k.1 v (h.1 v hv), fun q => k.2 (h.2 q)⟩
theorem quad_kept {B : Nat} {a : Option Addr} {ts : List Q4} {W W' : World} (h : Quad B W a ts) (hb : ∀ b, b < B → (∀ o, a = some ⟨b, o, none⟩ → W'.heap[b]? = W.heap[b]?)) : Quad B W' a ts := fun i hi => by
  obtain ⟨b, off, ha, hbB, c0, c1, c2, c3⟩ := h i hi
  have e := hb b hbB off ha
  exact ⟨b, off, ha, hbB, (World.cell?_of_block e).trans c0, (World.cell?_of_block e).trans c1, (World.cell?_of_block e).trans c2, (World.cell?_of_block e).trans c3⟩
theorem kpQ_b {B Bt : Nat} {t : TypeId} {a : Option Addr} {ts : List Q4} {w : World} (hB : B ≤ w.heap.size) (hBt : Bt < w.heap.size) (W : World) (l : Nat) (o o' : Obj) (hl : w.heap.size ≤ l) (h : W.heap[l]? = some o) (h1 : o.isCells = false) (h2 : o.isWalk = false) : KpQ B Bt t a ts W (W.putObj l o') :=
  ⟨fun v hv => hv.kept (grownBy_putObj' W l o') (fun e => by have e1 : Bt = l := Option.some.inj e; omega), fun q => quad_kept q (fun b hb _ _ => World.putObj_heap_other (fun e => by omega))⟩
set_option maxHeartbeats 16000000 in
theorem pay_any {w : World} {Bi Bt g : Nat} (cap : Nat) {aT : Option Addr} {cT : Nat} {ts : List Q4} (i n : Int) (bI : Boxed w Bi 2 (.int .i64 i)) (bT : Boxed w Bt 53 (.slice aT ts.length cT)) (hT : Quad w.heap.size w aT ts) (hne : ∀ b o, aT = some ⟨b, o, none⟩ → b ≠ g) (ngt : g ≠ Bt)
    (hw : PWell ts) (hl : ts.length ≤ 30) (i0 : 0 ≤ i) (i1 : i < ts.length) {X : List Q4} (hX : X.length = ts.length) (f : QFill w g X.length X X.length) (hg : g < w.heap.size) (lv : LvlIn 0 1000000000000000000 X) (hn : 1 ≤ n ∧ n ≤ 1500) :
    Calls Try.prog 125 #[.func (.func 119) #[] #[.pointer (some ⟨Bi, 0, none⟩), .pointer (some ⟨Bt, 0, none⟩)], .slice (some ⟨g, 0, none⟩) X.length cap, .int .i64 n] w fun e w' => e = .returned (.tuple #[]) ∧ QFill w' g X.length (payL n X (pathOf ts i)) X.length ∧ OnlyO (some g) w w' := by
  have HX : Hid (X.length = ts.length) := hX
  clear hX
  have hXl : (X.length : Int) ≤ 30 := by have := HX.out; omega
  refine (callsIn_wide (n := 3)).1 ?_
  refine callsIn_of_wp_marks Try.func125 rfl trivial ?_ rfl
  simp only [Try.ntmps125, List.size_toArray, List.length_cons, List.length_nil, Nat.reduceAdd, Nat.reduceSub, Array.replicate_succ, Array.replicate_zero, List.push_toArray, List.append_toArray, List.nil_append, List.cons_append]
  gi_wp2
  have hB0 : Below w.heap.size w ((w.alloc (.cells #[.slice (some ⟨g, 0, none⟩) X.length cap] 62)).alloc (.cells #[.int .i64 n] 2)) := ((Below.refl _ w).alloc (Nat.le_refl _) _).alloc (by simp) _
  have bL : Boxed ((w.alloc (.cells #[.slice (some ⟨g, 0, none⟩) X.length cap] 62)).alloc (.cells #[.int .i64 n] 2)) w.heap.size 62 (.slice (some ⟨g, 0, none⟩) X.length cap) := (Boxed.new w _ _).alloc _
  have bN := Boxed.new (w.alloc (.cells #[.slice (some ⟨g, 0, none⟩) X.length cap] 62)) 2 (.int .i64 n)
  simp only [World.size_alloc] at bN
  have zI := bI.lt
  have zT := bT.lt
  have s0 : ((w.alloc (.cells #[.slice (some ⟨g, 0, none⟩) X.length cap] 62)).alloc (.cells #[.int .i64 n] 2)).heap.size = w.heap.size + 2 := by simp
  refine wpIn_rangeFunc_ownG rfl (by omega) (gf := 119) (lb := #[.pointer (some ⟨Bi, 0, none⟩), .pointer (some ⟨Bt, 0, none⟩)]) rfl trivial (enters_of Try.func119 (by kernel_rfl) rfl)
    (up2_stops (w := (w.alloc (.cells #[.slice (some ⟨g, 0, none⟩) X.length cap] 62)).alloc (.cells #[.int .i64 n] 2)) Bi Bt w.heap.size aT cT i hw hl i0 i1 (Kp := KpQ w.heap.size Bt 53 aT ts) (fun h => h) (box_next bI hB0) (box_next bT hB0) (hT.mono hB0) (by simp <;> omega)) kpQ_t (kpQ_b (by rw [s0]; omega) (by rw [s0]; omega)) (Below.refl _ _) (fun _ => rfl)
    (fun pre W => QFill W g X.length (payL n X (vals pre)) X.length ∧ (Boxed W w.heap.size 62 (.slice (some ⟨g, 0, none⟩) X.length cap) ∧ (Boxed W (w.heap.size + 1) 2 (.int .i64 n) ∧ OnlyO (some g) w W)))
    (fun _ _ _ => False)
    (OwnFrom.and (Own.from (fun s A B row hs hg hr => hs.kept' hg hr) _) (OwnFrom.and (Own.from (boxed_own _ _ (fun _ => .slice (some ⟨g, 0, none⟩) X.length cap)) _) (OwnFrom.and (Own.from (boxed_own _ _ (fun _ => .int .i64 n)) _) (ownFrom_onlyO (by rw [s0]; omega)))))
    (fun _ _ _ _ _ hs _ _ => hs)
    ⟨f.mono hB0 hg, bL, bN, OnlyO.of_below hB0⟩
    (fun x => { tmps := #[.func (.func 119) #[] #[.pointer (some ⟨Bi, 0, none⟩), .pointer (some ⟨Bt, 0, none⟩)], .slice (some ⟨g, 0, none⟩) X.length cap, .int .i64 n, undef, .pointer (some ⟨w.heap.size, 0, none⟩), .pointer (some ⟨w.heap.size + 1, 0, none⟩), .int .i64 x.1, .func (.func 119) #[] #[.pointer (some ⟨Bi, 0, none⟩), .pointer (some ⟨Bt, 0, none⟩)], .int .i64 x.1, undef, undef, undef, undef, undef, undef, undef, undef, undef, undef], defers := [] }) ?assign ?body ?done ?stop
  case assign =>
    intro l x W K hK
    gi_wp2
    exact hK
  case body =>
    clear bL bN hB0
    rintro l pre ⟨xi, hx0, hx1⟩ W ⟨fW, hbL, hbN, ho⟩ _
    obtain ⟨k, rfl⟩ := Int.eq_ofNat_of_zero_le hx0
    have hPL := payL_length n X (vals pre)
    have hk : k < (payL n X (vals pre)).length := by have := HX.out; omega
    have hkX : k < X.length := by have := HX.out; omega
    have hkXi : (k : Int) < (X.length : Int) := by omega
    have hlv := payL_levels hn (vals pre) lv k hk
    have hgW : g < W.heap.size := Nat.lt_of_lt_of_le hg ho.size
    have zL := hbL.lt
    have zN := hbN.lt
    obtain ⟨⟨q1, q2, q3, q4⟩, hq⟩ : ∃ b, (payL n X (vals pre))[k] = b := ⟨_, rfl⟩
    rw [hq] at hlv
    have hlq : 0 ≤ q3 ∧ q3 ≤ 1000000000000000000 := hlv
    have hgot := fW.got k hk hkX
    rw [hq] at hgot
    have HS : Hid (∀ W', Below W.heap.size W W' → W'.cell? ⟨w.heap.size, 0, none⟩ = some (.slice (some ⟨g, 0, none⟩) X.length cap) ∧ W'.cell? ⟨w.heap.size + 1, 0, none⟩ = some (.int .i64 n) ∧ W'.cell? ⟨g, k * 4, none⟩ = some (.int .i64 q1) ∧ W'.cell? ⟨g, k * 4 + 1, none⟩ = some (.int .i64 q2) ∧ W'.cell? ⟨g, k * 4 + 2, none⟩ = some (.int .i64 q3) ∧ W'.cell? ⟨g, k * 4 + 3, none⟩ = some (.int .i64 q4)) := fun W' h => ⟨(below_cells h _ _ zL).trans hbL.cell, (below_cells h _ _ zN).trans hbN.cell, (below_cells h _ _ hgW).trans hgot.1, (below_cells h _ _ hgW).trans hgot.2.1, (below_cells h _ _ hgW).trans hgot.2.2.1, (below_cells h _ _ hgW).trans hgot.2.2.2⟩
    have HFr : Hid (∀ W', Below W.heap.size W W' → W'.frozen? ⟨g, k * 4, none⟩ = false ∧ W'.frozen? ⟨g, k * 4 + 1, none⟩ = false ∧ W'.frozen? ⟨g, k * 4 + 2, none⟩ = false ∧ W'.frozen? ⟨g, k * 4 + 3, none⟩ = false) := fun W' h => ⟨(below_frozens h _ _ hgW).trans (fW.any (k * 4) (by omega)).2, (below_frozens h _ _ hgW).trans (fW.any (k * 4 + 1) (by omega)).2, (below_frozens h _ _ hgW).trans (fW.any (k * 4 + 2) (by omega)).2, (below_frozens h _ _ hgW).trans (fW.any (k * 4 + 3) (by omega)).2⟩
    have HE : Hid (payL n X (vals (pre ++ [⟨(k : Int), hx0, hx1⟩])) = (payL n X (vals pre)).set k (q1, q2, max 0 (q3 - 1000000000 * n), q4)) := by
      show payL n X _ = _
      rw [vals_snoc, payL_snoc, modAt_at hk, hq]
      rfl
    have HF : Hid (QFill W g (payL n X (vals pre)).length (payL n X (vals pre)) (payL n X (vals pre)).length) := by rw [hPL]; exact fW
    clear hgot hlv hq fW
    have HK : Hid (k < (payL n X (vals pre)).length) := hk
    have HP : Hid ((payL n X (vals pre)).length = X.length) := hPL
    clear hk hPL
    gi_upto_region 3 with (fail)
    refine late_in (S := fun w' => w'.cell? ⟨w.heap.size, 0, none⟩ = some (.slice (some ⟨g, 0, none⟩) X.length cap) ∧ w'.cell? ⟨w.heap.size + 1, 0, none⟩ = some (.int .i64 n) ∧ w'.cell? ⟨g, k * 4, none⟩ = some (.int .i64 q1) ∧ w'.cell? ⟨g, k * 4 + 1, none⟩ = some (.int .i64 q2) ∧ w'.cell? ⟨g, k * 4 + 2, none⟩ = some (.int .i64 q3) ∧ w'.cell? ⟨g, k * 4 + 3, none⟩ = some (.int .i64 q4)) (by kernel_rfl) 10 (by kernel_rfl) (HS.out _ (Below.refl _ _).drew) (fun hS => ?_)
    refine late_take (i := 0) (v := ?_) rfl (by kernel_rfl) (by kernel_rfl) (by kernel_rfl) (by kernel_rfl) (fun _ _ _ h => h) (Or.inl ⟨by rfl, ?_⟩) (by assumption) ?_
    rotate_left 1
    · (intro w' hSw; (try dsimp only at hSw); go_simp; try with_reducible rfl)
    try simp only [Act.put, List.setIfInBounds_toArray, List.set_cons_zero, List.set_cons_succ, List.getElem_toArray, List.getElem_cons_succ, List.getElem_cons_zero]
    refine late_take (i := 1) (v := ?_) rfl (by kernel_rfl) (by kernel_rfl) (by kernel_rfl) (by kernel_rfl) (fun _ _ _ h => h) (Or.inl ⟨by rfl, ?_⟩) (by assumption) ?_
    rotate_left 1
    · (intro w' hSw; (try dsimp only at hSw); go_simp; try with_reducible rfl)
    try simp only [Act.put, List.setIfInBounds_toArray, List.set_cons_zero, List.set_cons_succ, List.getElem_toArray, List.getElem_cons_succ, List.getElem_cons_zero]
    refine late_take (i := 2) (v := ?_) rfl (by kernel_rfl) (by kernel_rfl) (by kernel_rfl) (by kernel_rfl) (fun _ _ _ h => h) (Or.inl ⟨by rfl, ?_⟩) (by assumption) ?_
    rotate_left 1
    · (intro w' hSw; (try dsimp only at hSw); go_simp; try with_reducible rfl)
    try simp only [Act.put, List.setIfInBounds_toArray, List.set_cons_zero, List.set_cons_succ, List.getElem_toArray, List.getElem_cons_succ, List.getElem_cons_zero]
    refine late_take (i := 3) (v := ?_) rfl (by kernel_rfl) (by kernel_rfl) (by kernel_rfl) (by kernel_rfl) (fun _ _ _ h => h) (Or.inl ⟨by rfl, ?_⟩) (by assumption) ?_
    rotate_left 1
    · (intro w' hSw; (try dsimp only at hSw); go_simp; try with_reducible rfl)
    try simp only [Act.put, List.setIfInBounds_toArray, List.set_cons_zero, List.set_cons_succ, List.getElem_toArray, List.getElem_cons_succ, List.getElem_cons_zero]
    refine late_take (i := 4) (v := ?_) rfl (by kernel_rfl) (by kernel_rfl) (by kernel_rfl) (by kernel_rfl) (fun _ _ _ h => h) (Or.inl ⟨by rfl, ?_⟩) (by assumption) ?_
    rotate_left 1
    · (intro w' hSw; (try dsimp only at hSw); go_simp; try with_reducible rfl)
    try simp only [Act.put, List.setIfInBounds_toArray, List.set_cons_zero, List.set_cons_succ, List.getElem_toArray, List.getElem_cons_succ, List.getElem_cons_zero]
    refine late_take (i := 5) (v := ?_) rfl (by kernel_rfl) (by kernel_rfl) (by kernel_rfl) (by kernel_rfl) (fun _ _ _ h => h) (Or.inl ⟨by rfl, ?_⟩) (by assumption) ?_
    rotate_left 1
    · (intro w' hSw; (try dsimp only at hSw); go_simp; try with_reducible rfl)
    try simp only [Act.put, List.setIfInBounds_toArray, List.set_cons_zero, List.set_cons_succ, List.getElem_toArray, List.getElem_cons_succ, List.getElem_cons_zero]
    refine late_take (i := 6) (v := ?_) rfl (by kernel_rfl) (by kernel_rfl) (by kernel_rfl) (by kernel_rfl) (fun _ _ _ h => h) (Or.inl ⟨by rfl, ?_⟩) (by assumption) ?_
    rotate_left 1
    · (intro w' hSw; (try dsimp only at hSw); go_simp; try with_reducible rfl)
    try simp only [Act.put, List.setIfInBounds_toArray, List.set_cons_zero, List.set_cons_succ, List.getElem_toArray, List.getElem_cons_succ, List.getElem_cons_zero]
    refine late_take (i := 7) (v := ?_) rfl (by kernel_rfl) (by kernel_rfl) (by kernel_rfl) (by kernel_rfl) (fun _ _ _ h => h) (Or.inl ⟨by rfl, ?_⟩) (by assumption) ?_
    rotate_left 1
    · (intro w' hSw; (try dsimp only at hSw); go_simp; try with_reducible rfl)
    try simp only [Act.put, List.setIfInBounds_toArray, List.set_cons_zero, List.set_cons_succ, List.getElem_toArray, List.getElem_cons_succ, List.getElem_cons_zero]
    refine late_one (i := 8) (by kernel_rfl) rfl (fun K hK => ?_)
    go_simp
    (refine (paid_any _ hlq hn).mono ?_; rintro e Wa ⟨rfl, hba⟩; have hba := undrew hba; have hSa := HS.out _ hba; have ⟨_, _, y0, y1, y2, y3⟩ := hSa; have fra := HFr.out _ hba; simp only [])
    refine hK.out _ _ (by assumption) (fun _ => ?_)
    try simp only [Act.put, List.setIfInBounds_toArray, List.set_cons_zero, List.set_cons_succ, List.getElem_toArray, List.getElem_cons_succ, List.getElem_cons_zero]
    refine late_take (i := 9) (v := ?_) rfl (by kernel_rfl) (by kernel_rfl) (by kernel_rfl) (by kernel_rfl) (fun _ _ _ h => h) (Or.inl ⟨by rfl, ?_⟩) (by assumption) ?_
    rotate_left 1
    · (intro w' hSw; (try dsimp only at hSw); go_simp; try with_reducible rfl)
    try simp only [Act.put, List.setIfInBounds_toArray, List.set_cons_zero, List.set_cons_succ, List.getElem_toArray, List.getElem_cons_succ, List.getElem_cons_zero]
    refine late_last (by kernel_rfl) rfl (by kernel_rfl) (fun K hK => ?_)
    go_simp
    refine hK.out _ _ ?_
    try simp only [Act.put, List.setIfInBounds_toArray, List.set_cons_zero, List.set_cons_succ, List.getElem_toArray, List.getElem_cons_succ, List.getElem_cons_zero]
    refine ⟨by simp, ?_⟩
    gi_wp2
    have hpg := putQ_grown Wa g (k * 4) (q1, q2, max 0 (q3 - 1000000000 * n), q4)
    have zWa := hba.size
    have fa := HF.out.mono hba hgW
    have fb := fa.mod HK.out (q1, q2, max 0 (q3 - 1000000000 * n), q4)
    rw [← HE.out, HP.out] at fb
    obtain ⟨V, hV⟩ : ∃ V, putQ Wa g (k * 4) (q1, q2, max 0 (q3 - 1000000000 * n), q4) = V := ⟨_, rfl⟩
    have hV' : (((Wa.setCell ⟨g, k * 4, none⟩ (.int .i64 q1)).setCell ⟨g, k * 4 + 1, none⟩ (.int .i64 q2)).setCell ⟨g, k * 4 + 2, none⟩ (.int .i64 (max 0 (q3 - 1000000000 * n)))).setCell ⟨g, k * 4 + 3, none⟩ (.int .i64 q4) = V := hV
    rw [hV']
    have hoV := (OnlyO.next ho hba).put (k * 4) (q1, q2, max 0 (q3 - 1000000000 * n), q4)
    rw [hV] at hpg fb hoV
    clear hV hV'
    have k1 : KeepsFrom ((w.alloc (.cells #[.slice (some ⟨g, 0, none⟩) X.length cap] 62)).alloc (.cells #[.int .i64 n] 2)).heap.size W V := (keeps_below hba _).trans (KeepsFrom.of_grownBy hpg (fun j e => by have e1 : g = j := Option.some.inj e; rw [s0]; omega))
    have k2 : KpQ w.heap.size Bt 53 aT ts W V := ⟨fun v hv => (box_next hv hba).kept hpg (fun e => ngt (Option.some.inj e).symm), fun q => quad_kept q (fun b hb o ha => (hpg.block b (by have := ho.size; omega) (fun e => hne b o ha (Option.some.inj e))).trans (hba.block b (by have := ho.size; omega)))⟩
    have k3 := (box_next hbL hba).kept hpg (fun e => by have e1 : w.heap.size = g := Option.some.inj e; omega)
    have k4 := (box_next hbN hba).kept hpg (fun e => by have e1 : w.heap.size + 1 = g := Option.some.inj e; omega)
    exact ⟨k1, k2, fb, k3, k4, hoV⟩
  case done =>
    rintro D ys W hD hys ⟨fW, hbL, hbN, ho⟩ hK
    gi_wp2
    refine ⟨by simp, .inl ⟨_, _, rfl, run_takeDeferred hK, ?_⟩⟩
    rw [hys] at fW
    rw [s0] at hD
    have hgp := grownBy_putObj' W D (.deferred none)
    exact ⟨_, results_none rfl _ _ _, rfl, fW.kept' hgp (fun r e => by cases e; exact ⟨_, hK, rfl⟩), ownFrom_onlyO (β := Unit) (B := w.heap.size) (Nat.le_refl _) () W _ _ ho hgp (fun r e => by cases e; exact ⟨by omega, _, hK, rfl⟩)⟩
  case stop =>
    rintro D c pre W _ _ h _
    exact h.elim
end Go.Proofs.Ytmophpbfaonfmac
