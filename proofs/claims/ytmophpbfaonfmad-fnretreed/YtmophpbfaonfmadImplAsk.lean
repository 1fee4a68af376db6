/- What impl.Ask answers. -/
import Derived.Test.YtmophpbfaonfmadImplLender
import Derived.Test.YtmophpbfaonfmadImplNew
namespace Go.Proofs.Ytmophpbfaonfmad
open Go.ChangeShapes Go.WideShapes Go.ChangeAt Go.RowKit
set_option maxRecDepth 100000
set_option linter.unusedVariables false
set_option linter.unusedSimpArgs false

theorem told_mov (T O P : List Q4) (leaf now n : Int) : toldB T O P leaf now n = (movB T O P T now && ((hasB T leaf && leafB T leaf) && segB n)) := by
  cases hl : lendB T O P
  · rw [mov_no1 hl]
    unfold toldB
    rw [hl]
    rfl
  · have hd := lend_of hl
    have ht := now_time (now := now) hd
    unfold toldB movB hasB
    rw [hl, decide_eq_true hd.code, decide_eq_true (rfl : T.length = T.length), ← ht]
    generalize (decide (0 ≤ leaf) && decide (leaf ≤ (T.length : Int) - 1)) = a1
    generalize leafB T leaf = a2
    generalize timeB now = a3
    generalize decide (atOf O ≤ now) = a4
    generalize segB n = a5
    cases a1 <;> cases a2 <;> cases a3 <;> cases a4 <;> cases a5 <;> rfl
/-- What is needed of a Lend that is told. -/
theorem told_parts {T O P : List Q4} {leaf now n : Int} (h : toldB T O P leaf now n = true) : movB T O P T now = true ∧ hasB T leaf = true ∧ leafB T leaf = true ∧ segB n = true := by
  rw [told_mov] at h
  simp only [Bool.and_eq_true] at h
  exact ⟨h.1, h.2.1.1, h.2.1.2, h.2.2⟩
theorem path_nat {T : List Q4} {leaf : Int} (hh : hasB T leaf = true) : ∀ x ∈ pathOf T leaf, 0 ≤ x := by
  obtain ⟨ht, i0, i1⟩ := has_tree hh
  exact fun x hx => (path_mem ht.sound.well T.length leaf i1 (by omega) x hx).1
set_option maxHeartbeats 4000000 in
theorem ask1_yes {w : World} {b0 b1 b2 b3 bv : Nat} {aT aO aP : Option Addr} (cT cO cP : Nat) {T O P : List Q4} (leaf now n : Int) (hc : Cells w [(b0, 0, .slice aT T.length cT), (b0, 1, .slice aO O.length cO), (b0, 2, .slice aP P.length cP), (b1, 0, .int .i64 now), (b2, 0, .int .i64 leaf), (b3, 0, .int .i64 n)]) (hT : Quad w.heap.size w aT T) (hO : Quad w.heap.size w aO O) (hP : Quad w.heap.size w aP P) {u : Value} (kv : w.cell? ⟨bv, 0, none⟩ = some u) (hz : w.frozen? ⟨bv, 0, none⟩ = false) (ht : toldB T O P leaf now n = true) :
    Calls Try.prog 49 #[.pointer (some ⟨b0, 0, none⟩), .pointer (some ⟨b1, 0, none⟩), .pointer (some ⟨b2, 0, none⟩), .pointer (some ⟨b3, 0, none⟩), .pointer (some ⟨bv, 0, none⟩)] w fun e W => e = .returned (.tuple #[]) ∧ W.cell? ⟨bv, 0, none⟩ = some (.int .i64 (askAns T O P leaf now n)) ∧ OnlyP (fun k => k = bv) w W := by
  have hd := (told_of ht).lend
  have htm := (told_of ht).isTime
  have lO : Hid (O.length = T.length) := hd.lo
  have lP : Hid (P.length = T.length) := hd.lp
  obtain ⟨hm, hh, hlf, hsg⟩ := told_parts ht
  have HA : Hid (askAns T O P leaf now n = lendAns (movO T O now) (movP T P now) n (pathOf T leaf)) := by
    show askAns T O P leaf now n = _
    rw [mov_fillsO hd htm, mov_fillsP hd htm]
    exact ask_lend ht (path_nat hh)
  rw [HA.out]
  have zv : bv < w.heap.size := World.block_lt_of_cell? w _ kv
  clear ht hd htm
  have HS : Hid (∀ W, Below w.heap.size w W → (fun w' => w'.cell? ⟨b0, 0, none⟩ = some (.slice aT T.length cT) ∧ w'.cell? ⟨b0, 1, none⟩ = some (.slice aO O.length cO) ∧ w'.cell? ⟨b0, 2, none⟩ = some (.slice aP P.length cP) ∧ w'.cell? ⟨b1, 0, none⟩ = some (.int .i64 now) ∧ w'.cell? ⟨b2, 0, none⟩ = some (.int .i64 leaf) ∧ w'.cell? ⟨b3, 0, none⟩ = some (.int .i64 n)) W) := fun W h => (by have ⟨⟨_, e0⟩, ⟨_, e1⟩, ⟨_, e2⟩, ⟨_, e3⟩, ⟨_, e4⟩, ⟨_, e5⟩, _⟩ := Cells.next h hc; exact ⟨e0, e1, e2, e3, e4, e5⟩)
  have hw0 : Below w.heap.size w w.drew := (Below.refl _ _).drew
  clear hc
  go_enter Try.func49, Try.ntmps49
  refine region_late (S := fun w' => w'.cell? ⟨b0, 0, none⟩ = some (.slice aT T.length cT) ∧ w'.cell? ⟨b0, 1, none⟩ = some (.slice aO O.length cO) ∧ w'.cell? ⟨b0, 2, none⟩ = some (.slice aP P.length cP) ∧ w'.cell? ⟨b1, 0, none⟩ = some (.int .i64 now) ∧ w'.cell? ⟨b2, 0, none⟩ = some (.int .i64 leaf) ∧ w'.cell? ⟨b3, 0, none⟩ = some (.int .i64 n)) 8 (by kernel_rfl) (HS.out _ (Below.refl _ _).drew) (fun hS => ?_)
  refine late_take (i := 0) (v := ?_) rfl (by kernel_rfl) (by kernel_rfl) (by kernel_rfl) (by kernel_rfl) (fun _ _ _ h => h) (Or.inl ⟨by rfl, ?_⟩) (by assumption) ?_
  rotate_left 1
  · (intro w' hSw; (try dsimp only at hSw); go_simp; try with_reducible rfl)
  try simp only [Act.put, List.setIfInBounds_toArray, List.set_cons_zero, List.set_cons_succ, List.getElem_toArray, List.getElem_cons_succ, List.getElem_cons_zero]
  refine late_take (i := 1) (v := ?_) rfl (by kernel_rfl) (by kernel_rfl) (by kernel_rfl) (by kernel_rfl) (fun _ _ _ h => h) (Or.inl ⟨by rfl, ?_⟩) (by assumption) ?_
  rotate_left 1
  · (intro w' hSw; (try dsimp only at hSw); go_simp; try with_reducible rfl)
  try simp only [Act.put, List.setIfInBounds_toArray, List.set_cons_zero, List.set_cons_succ, List.getElem_toArray, List.getElem_cons_succ, List.getElem_cons_zero]
  refine late_take (i := 2) (v := ?_) rfl (by kernel_rfl) (by kernel_rfl) (by kernel_rfl) (by kernel_rfl) (fun _ _ _ h => h) (Or.inl ⟨by rfl, ?_⟩) (by assumption) ?_
  rotate_left 1
  · (intro w' hSw; (try dsimp only at hSw); go_simp; try with_reducible rfl)
  try simp only [Act.put, List.setIfInBounds_toArray, List.set_cons_zero, List.set_cons_succ, List.getElem_toArray, List.getElem_cons_succ, List.getElem_cons_zero]
  refine late_take (i := 3) (v := ?_) rfl (by kernel_rfl) (by kernel_rfl) (by kernel_rfl) (by kernel_rfl) (fun _ _ _ h => h) (Or.inl ⟨by rfl, ?_⟩) (by assumption) ?_
  rotate_left 1
  · (intro w' hSw; (try dsimp only at hSw); go_simp; try with_reducible rfl)
  try simp only [Act.put, List.setIfInBounds_toArray, List.set_cons_zero, List.set_cons_succ, List.getElem_toArray, List.getElem_cons_succ, List.getElem_cons_zero]
  refine late_take (i := 5) (v := ?_) rfl (by kernel_rfl) (by kernel_rfl) (by kernel_rfl) (by kernel_rfl) (fun _ _ _ h => h) (Or.inl ⟨by rfl, ?_⟩) (by assumption) ?_
  rotate_left 1
  · (intro w' hSw; (try dsimp only at hSw); go_simp; try with_reducible rfl)
  try simp only [Act.put, List.setIfInBounds_toArray, List.set_cons_zero, List.set_cons_succ, List.getElem_toArray, List.getElem_cons_succ, List.getElem_cons_zero]
  refine late_take (i := 6) (v := ?_) rfl (by kernel_rfl) (by kernel_rfl) (by kernel_rfl) (by kernel_rfl) (fun _ _ _ h => h) (Or.inl ⟨by rfl, ?_⟩) (by assumption) ?_
  rotate_left 1
  · (intro w' hSw; (try dsimp only at hSw); go_simp; try with_reducible rfl)
  try simp only [Act.put, List.setIfInBounds_toArray, List.set_cons_zero, List.set_cons_succ, List.getElem_toArray, List.getElem_cons_succ, List.getElem_cons_zero]
  refine late_one (i := 4) (by kernel_rfl) rfl (fun K hK => ?_)
  go_simp
  (refine (movedTo_yes cT cO cP cT now (hT.here hw0) (hO.here hw0) (hP.here hw0) (hT.here hw0) hm).mono ?_; rintro e w2 ⟨a1, n1, c1, a2, n2, c2, a3, n3, c3, rfl, hl, hb2⟩; obtain ⟨rfl, q1⟩ := hl.t.quad; obtain ⟨rfl, q2⟩ := hl.o.quad; obtain ⟨rfl, q3⟩ := hl.p.quad; have hb2 := undrew hb2; have hS2 := HS.out _ hb2; simp only [])
  refine hK.out _ _ (by assumption) (fun _ => ?_)
  try simp only [Act.put, List.setIfInBounds_toArray, List.set_cons_zero, List.set_cons_succ, List.getElem_toArray, List.getElem_cons_succ, List.getElem_cons_zero]
  refine late_one (i := 7) (by kernel_rfl) rfl (fun K hK => ?_)
  go_simp
  (refine (lender_yes c1 c2 c3 leaf n q1 q2 q3 (movO_length lO.out) (movP_length lP.out) hh hlf hsg).mono ?_; rintro e w3 ⟨rfl, hb3⟩; have hb3w := below_two hb2 hb3; have hS3 := HS.out _ hb3w; have cv := (below_cells hb3w _ _ zv).trans kv; have fv := (below_frozens hb3w _ _ zv).trans hz; simp only [])
  refine hK.out _ _ (by assumption) (fun _ => ?_)
  try simp only [Act.put, List.setIfInBounds_toArray, List.set_cons_zero, List.set_cons_succ, List.getElem_toArray, List.getElem_cons_succ, List.getElem_cons_zero]
  refine late_last (by kernel_rfl) rfl (by kernel_rfl) (fun K hK => ?_)
  go_simp
  refine hK.out _ _ ?_
  try simp only [Act.put, List.setIfInBounds_toArray, List.set_cons_zero, List.set_cons_succ, List.getElem_toArray, List.getElem_cons_succ, List.getElem_cons_zero]
  go_wp2
  go_end0
  refine ⟨rfl, World.cell?_setCell_same' _ _ _ (by rw [cv]; rfl), ?_⟩
  refine ⟨hb3w.os, hb3w.tape, hb3w.output, by simpa using hb3w.size, fun k hk hn => ?_⟩
  rw [Below.heap_setCell _ _ _ _ (by simp only; omega)]
  exact hb3w.block k hk
set_option maxHeartbeats 4000000 in
theorem ask1_no {w : World} {b0 b1 b2 b3 bv : Nat} {aT aO aP : Option Addr} (cT cO cP : Nat) {T O P : List Q4} (leaf now n : Int) (hc : Cells w [(b0, 0, .slice aT T.length cT), (b0, 1, .slice aO O.length cO), (b0, 2, .slice aP P.length cP), (b1, 0, .int .i64 now), (b2, 0, .int .i64 leaf), (b3, 0, .int .i64 n)]) (hT : Quad w.heap.size w aT T) (hO : Quad w.heap.size w aO O) (hP : Quad w.heap.size w aP P) (ht : toldB T O P leaf now n = false) :
    Calls Try.prog 49 #[.pointer (some ⟨b0, 0, none⟩), .pointer (some ⟨b1, 0, none⟩), .pointer (some ⟨b2, 0, none⟩), .pointer (some ⟨b3, 0, none⟩), .pointer (some ⟨bv, 0, none⟩)] w fun e W => e = gaveUp ∧ Below w.heap.size w W := by
  rw [told_mov] at ht
  have HS : Hid (∀ W, Below w.heap.size w W → (fun w' => w'.cell? ⟨b0, 0, none⟩ = some (.slice aT T.length cT) ∧ w'.cell? ⟨b0, 1, none⟩ = some (.slice aO O.length cO) ∧ w'.cell? ⟨b0, 2, none⟩ = some (.slice aP P.length cP) ∧ w'.cell? ⟨b1, 0, none⟩ = some (.int .i64 now) ∧ w'.cell? ⟨b2, 0, none⟩ = some (.int .i64 leaf) ∧ w'.cell? ⟨b3, 0, none⟩ = some (.int .i64 n)) W) := fun W h => (by have ⟨⟨_, e0⟩, ⟨_, e1⟩, ⟨_, e2⟩, ⟨_, e3⟩, ⟨_, e4⟩, ⟨_, e5⟩, _⟩ := Cells.next h hc; exact ⟨e0, e1, e2, e3, e4, e5⟩)
  have hw0 : Below w.heap.size w w.drew := (Below.refl _ _).drew
  clear hc
  cases hm : movB T O P T now
  · clear ht
    go_enter Try.func49, Try.ntmps49
    refine region_late (S := fun w' => w'.cell? ⟨b0, 0, none⟩ = some (.slice aT T.length cT) ∧ w'.cell? ⟨b0, 1, none⟩ = some (.slice aO O.length cO) ∧ w'.cell? ⟨b0, 2, none⟩ = some (.slice aP P.length cP) ∧ w'.cell? ⟨b1, 0, none⟩ = some (.int .i64 now) ∧ w'.cell? ⟨b2, 0, none⟩ = some (.int .i64 leaf) ∧ w'.cell? ⟨b3, 0, none⟩ = some (.int .i64 n)) 8 (by kernel_rfl) (HS.out _ (Below.refl _ _).drew) (fun hS => ?_)
    refine late_take (i := 0) (v := ?_) rfl (by kernel_rfl) (by kernel_rfl) (by kernel_rfl) (by kernel_rfl) (fun _ _ _ h => h) (Or.inl ⟨by rfl, ?_⟩) (by assumption) ?_
    rotate_left 1
    · (intro w' hSw; (try dsimp only at hSw); go_simp; try with_reducible rfl)
    try simp only [Act.put, List.setIfInBounds_toArray, List.set_cons_zero, List.set_cons_succ, List.getElem_toArray, List.getElem_cons_succ, List.getElem_cons_zero]
    refine late_take (i := 1) (v := ?_) rfl (by kernel_rfl) (by kernel_rfl) (by kernel_rfl) (by kernel_rfl) (fun _ _ _ h => h) (Or.inl ⟨by rfl, ?_⟩) (by assumption) ?_
    rotate_left 1
    · (intro w' hSw; (try dsimp only at hSw); go_simp; try with_reducible rfl)
    try simp only [Act.put, List.setIfInBounds_toArray, List.set_cons_zero, List.set_cons_succ, List.getElem_toArray, List.getElem_cons_succ, List.getElem_cons_zero]
    refine late_take (i := 2) (v := ?_) rfl (by kernel_rfl) (by kernel_rfl) (by kernel_rfl) (by kernel_rfl) (fun _ _ _ h => h) (Or.inl ⟨by rfl, ?_⟩) (by assumption) ?_
    rotate_left 1
    · (intro w' hSw; (try dsimp only at hSw); go_simp; try with_reducible rfl)
    try simp only [Act.put, List.setIfInBounds_toArray, List.set_cons_zero, List.set_cons_succ, List.getElem_toArray, List.getElem_cons_succ, List.getElem_cons_zero]
    refine late_take (i := 3) (v := ?_) rfl (by kernel_rfl) (by kernel_rfl) (by kernel_rfl) (by kernel_rfl) (fun _ _ _ h => h) (Or.inl ⟨by rfl, ?_⟩) (by assumption) ?_
    rotate_left 1
    · (intro w' hSw; (try dsimp only at hSw); go_simp; try with_reducible rfl)
    try simp only [Act.put, List.setIfInBounds_toArray, List.set_cons_zero, List.set_cons_succ, List.getElem_toArray, List.getElem_cons_succ, List.getElem_cons_zero]
    refine late_take (i := 5) (v := ?_) rfl (by kernel_rfl) (by kernel_rfl) (by kernel_rfl) (by kernel_rfl) (fun _ _ _ h => h) (Or.inl ⟨by rfl, ?_⟩) (by assumption) ?_
    rotate_left 1
    · (intro w' hSw; (try dsimp only at hSw); go_simp; try with_reducible rfl)
    try simp only [Act.put, List.setIfInBounds_toArray, List.set_cons_zero, List.set_cons_succ, List.getElem_toArray, List.getElem_cons_succ, List.getElem_cons_zero]
    refine late_take (i := 6) (v := ?_) rfl (by kernel_rfl) (by kernel_rfl) (by kernel_rfl) (by kernel_rfl) (fun _ _ _ h => h) (Or.inl ⟨by rfl, ?_⟩) (by assumption) ?_
    rotate_left 1
    · (intro w' hSw; (try dsimp only at hSw); go_simp; try with_reducible rfl)
    try simp only [Act.put, List.setIfInBounds_toArray, List.set_cons_zero, List.set_cons_succ, List.getElem_toArray, List.getElem_cons_succ, List.getElem_cons_zero]
    refine late_one (i := 4) (by kernel_rfl) rfl (fun K hK => ?_)
    go_simp
    refine (movedTo_no cT cO cP cT now (hT.here hw0) (hO.here hw0) (hP.here hw0) (hT.here hw0) hm).mono ?_
    rintro e w2 ⟨rfl, hb2⟩
    have hb2 := undrew hb2
    exact ⟨rfl, rfl, hb2⟩
  · have hoff : ((hasB T leaf && leafB T leaf) && segB n) = false := by rw [hm, Bool.true_and] at ht; exact ht
    have hl : lendB T O P = true := by
      have h := hm
      unfold movB at h
      simp only [Bool.and_eq_true] at h
      exact h.1.1.1
    have h30 := (lend_of hl).tree.l1
    clear ht hl
    go_enter Try.func49, Try.ntmps49
    refine region_late (S := fun w' => w'.cell? ⟨b0, 0, none⟩ = some (.slice aT T.length cT) ∧ w'.cell? ⟨b0, 1, none⟩ = some (.slice aO O.length cO) ∧ w'.cell? ⟨b0, 2, none⟩ = some (.slice aP P.length cP) ∧ w'.cell? ⟨b1, 0, none⟩ = some (.int .i64 now) ∧ w'.cell? ⟨b2, 0, none⟩ = some (.int .i64 leaf) ∧ w'.cell? ⟨b3, 0, none⟩ = some (.int .i64 n)) 8 (by kernel_rfl) (HS.out _ (Below.refl _ _).drew) (fun hS => ?_)
    refine late_take (i := 0) (v := ?_) rfl (by kernel_rfl) (by kernel_rfl) (by kernel_rfl) (by kernel_rfl) (fun _ _ _ h => h) (Or.inl ⟨by rfl, ?_⟩) (by assumption) ?_
    rotate_left 1
    · (intro w' hSw; (try dsimp only at hSw); go_simp; try with_reducible rfl)
    try simp only [Act.put, List.setIfInBounds_toArray, List.set_cons_zero, List.set_cons_succ, List.getElem_toArray, List.getElem_cons_succ, List.getElem_cons_zero]
    refine late_take (i := 1) (v := ?_) rfl (by kernel_rfl) (by kernel_rfl) (by kernel_rfl) (by kernel_rfl) (fun _ _ _ h => h) (Or.inl ⟨by rfl, ?_⟩) (by assumption) ?_
    rotate_left 1
    · (intro w' hSw; (try dsimp only at hSw); go_simp; try with_reducible rfl)
    try simp only [Act.put, List.setIfInBounds_toArray, List.set_cons_zero, List.set_cons_succ, List.getElem_toArray, List.getElem_cons_succ, List.getElem_cons_zero]
    refine late_take (i := 2) (v := ?_) rfl (by kernel_rfl) (by kernel_rfl) (by kernel_rfl) (by kernel_rfl) (fun _ _ _ h => h) (Or.inl ⟨by rfl, ?_⟩) (by assumption) ?_
    rotate_left 1
    · (intro w' hSw; (try dsimp only at hSw); go_simp; try with_reducible rfl)
    try simp only [Act.put, List.setIfInBounds_toArray, List.set_cons_zero, List.set_cons_succ, List.getElem_toArray, List.getElem_cons_succ, List.getElem_cons_zero]
    refine late_take (i := 3) (v := ?_) rfl (by kernel_rfl) (by kernel_rfl) (by kernel_rfl) (by kernel_rfl) (fun _ _ _ h => h) (Or.inl ⟨by rfl, ?_⟩) (by assumption) ?_
    rotate_left 1
    · (intro w' hSw; (try dsimp only at hSw); go_simp; try with_reducible rfl)
    try simp only [Act.put, List.setIfInBounds_toArray, List.set_cons_zero, List.set_cons_succ, List.getElem_toArray, List.getElem_cons_succ, List.getElem_cons_zero]
    refine late_take (i := 5) (v := ?_) rfl (by kernel_rfl) (by kernel_rfl) (by kernel_rfl) (by kernel_rfl) (fun _ _ _ h => h) (Or.inl ⟨by rfl, ?_⟩) (by assumption) ?_
    rotate_left 1
    · (intro w' hSw; (try dsimp only at hSw); go_simp; try with_reducible rfl)
    try simp only [Act.put, List.setIfInBounds_toArray, List.set_cons_zero, List.set_cons_succ, List.getElem_toArray, List.getElem_cons_succ, List.getElem_cons_zero]
    refine late_take (i := 6) (v := ?_) rfl (by kernel_rfl) (by kernel_rfl) (by kernel_rfl) (by kernel_rfl) (fun _ _ _ h => h) (Or.inl ⟨by rfl, ?_⟩) (by assumption) ?_
    rotate_left 1
    · (intro w' hSw; (try dsimp only at hSw); go_simp; try with_reducible rfl)
    try simp only [Act.put, List.setIfInBounds_toArray, List.set_cons_zero, List.set_cons_succ, List.getElem_toArray, List.getElem_cons_succ, List.getElem_cons_zero]
    refine late_one (i := 4) (by kernel_rfl) rfl (fun K hK => ?_)
    go_simp
    (refine (movedTo_yes cT cO cP cT now (hT.here hw0) (hO.here hw0) (hP.here hw0) (hT.here hw0) hm).mono ?_; rintro e w2 ⟨a1, n1, c1, a2, n2, c2, a3, n3, c3, rfl, hl, hb2⟩; obtain ⟨rfl, q1⟩ := hl.t.quad; obtain ⟨rfl, q2⟩ := hl.o.quad; obtain ⟨rfl, q3⟩ := hl.p.quad; have hb2 := undrew hb2; have hS2 := HS.out _ hb2; simp only [])
    refine hK.out _ _ (by assumption) (fun _ => ?_)
    try simp only [Act.put, List.setIfInBounds_toArray, List.set_cons_zero, List.set_cons_succ, List.getElem_toArray, List.getElem_cons_succ, List.getElem_cons_zero]
    refine late_one (i := 7) (by kernel_rfl) rfl (fun K hK => ?_)
    go_simp
    refine (lender_no c1 _ c2 _ c3 leaf n q1 h30 hoff).mono ?_
    rintro e w3 ⟨rfl, hb3⟩
    exact ⟨rfl, rfl, below_two hb2 hb3⟩
set_option maxHeartbeats 2000000 in
theorem iAsk_any {w : World} {aT aO aP : Option Addr} (cT cO cP : Nat) {T O P : List Q4} (leaf now n : Int) (hT : Quad w.heap.size w aT T) (hO : Quad w.heap.size w aO O) (hP : Quad w.heap.size w aP P) :
    Calls Try.prog 11 #[lendV aT T.length cT aO O.length cO aP P.length cP, .int .i64 leaf, .int .i64 now, .int .i64 n] w fun e w' => e = .returned (.int .i64 (askAns T O P leaf now n)) ∧ Below w.heap.size w w' := by
  have hmf : ∀ (fn : Fn) (first cap : Array Value) (w : World), (Instr.makeFunc fn first cap).run Try.prog w = .ok (.func fn first cap) w := fun _ _ _ _ => rfl
  have hent : ∀ args w, (callFunc 49 args).run Try.prog w = .ok (.enter 49 args) w := enters_of Try.func49 (by kernel_rfl) rfl
  have hb5 : Below w.heap.size w (((((w.alloc (.cells #[.slice aT T.length cT, .slice aO O.length cO, .slice aP P.length cP] 27)).alloc (.cells #[.int .i64 leaf] 2)).alloc (.cells #[.int .i64 now] 2)).alloc (.cells #[.int .i64 n] 2)).alloc (.cells #[.int .i64 (-2)] 2)) := by go_grown
  have s5 : (((((w.alloc (.cells #[.slice aT T.length cT, .slice aO O.length cO, .slice aP P.length cP] 27)).alloc (.cells #[.int .i64 leaf] 2)).alloc (.cells #[.int .i64 now] 2)).alloc (.cells #[.int .i64 n] 2)).alloc (.cells #[.int .i64 (-2)] 2)).heap.size = w.heap.size + 5 := by simp
  have c5 : Cells (((((w.alloc (.cells #[.slice aT T.length cT, .slice aO O.length cO, .slice aP P.length cP] 27)).alloc (.cells #[.int .i64 leaf] 2)).alloc (.cells #[.int .i64 now] 2)).alloc (.cells #[.int .i64 n] 2)).alloc (.cells #[.int .i64 (-2)] 2)) [(w.heap.size, 0, .slice aT T.length cT), (w.heap.size, 1, .slice aO O.length cO), (w.heap.size, 2, .slice aP P.length cP), (w.heap.size + 2, 0, .int .i64 now), (w.heap.size + 1, 0, .int .i64 leaf), (w.heap.size + 3, 0, .int .i64 n), (w.heap.size + 4, 0, .int .i64 (-2))] :=
    ⟨⟨by simp <;> omega, by go_simp⟩, ⟨by simp <;> omega, by go_simp⟩, ⟨by simp <;> omega, by go_simp⟩, ⟨by simp <;> omega, by go_simp⟩, ⟨by simp <;> omega, by go_simp⟩, ⟨by simp <;> omega, by go_simp⟩, ⟨by simp <;> omega, by go_simp⟩, trivial⟩
  have f4 : (((((w.alloc (.cells #[.slice aT T.length cT, .slice aO O.length cO, .slice aP P.length cP] 27)).alloc (.cells #[.int .i64 leaf] 2)).alloc (.cells #[.int .i64 now] 2)).alloc (.cells #[.int .i64 n] 2)).alloc (.cells #[.int .i64 (-2)] 2)).frozen? ⟨w.heap.size + 4, 0, none⟩ = false := by go_simp
  have nd := new_below (((((w.alloc (.cells #[.slice aT T.length cT, .slice aO O.length cO, .slice aP P.length cP] 27)).alloc (.cells #[.int .i64 leaf] 2)).alloc (.cells #[.int .i64 now] 2)).alloc (.cells #[.int .i64 n] 2)).alloc (.cells #[.int .i64 (-2)] 2)) (.cells #[.bool false] 4)
  have hb6 : Below w.heap.size w ((((((w.alloc (.cells #[.slice aT T.length cT, .slice aO O.length cO, .slice aP P.length cP] 27)).alloc (.cells #[.int .i64 leaf] 2)).alloc (.cells #[.int .i64 now] 2)).alloc (.cells #[.int .i64 n] 2)).alloc (.cells #[.int .i64 (-2)] 2)).alloc (.cells #[.bool false] 4)) := below_two hb5 nd
  have c6 := Cells.next nd c5
  have f46 : ((((((w.alloc (.cells #[.slice aT T.length cT, .slice aO O.length cO, .slice aP P.length cP] 27)).alloc (.cells #[.int .i64 leaf] 2)).alloc (.cells #[.int .i64 now] 2)).alloc (.cells #[.int .i64 n] 2)).alloc (.cells #[.int .i64 (-2)] 2)).alloc (.cells #[.bool false] 4)).frozen? ⟨w.heap.size + 4, 0, none⟩ = false := (below_frozens nd _ _ (by rw [s5]; omega)).trans f4
  have hc6 : Cells ((((((w.alloc (.cells #[.slice aT T.length cT, .slice aO O.length cO, .slice aP P.length cP] 27)).alloc (.cells #[.int .i64 leaf] 2)).alloc (.cells #[.int .i64 now] 2)).alloc (.cells #[.int .i64 n] 2)).alloc (.cells #[.int .i64 (-2)] 2)).alloc (.cells #[.bool false] 4)) [(w.heap.size, 0, .slice aT T.length cT), (w.heap.size, 1, .slice aO O.length cO), (w.heap.size, 2, .slice aP P.length cP), (w.heap.size + 2, 0, .int .i64 now), (w.heap.size + 1, 0, .int .i64 leaf), (w.heap.size + 3, 0, .int .i64 n)] := ⟨c6.1, c6.2.1, c6.2.2.1, c6.2.2.2.1, c6.2.2.2.2.1, c6.2.2.2.2.2.1, trivial⟩
  cases ht : toldB T O P leaf now n
  · have HA : Hid (askAns T O P leaf now n = -2) := by show askAns T O P leaf now n = -2; unfold askAns; rw [if_neg (by rw [ht]; simp)]
    rw [HA.out]
    have hk := att_no _ hent (ask1_no (bv := w.heap.size + 4) cT cO cP leaf now n hc6 (hT.here hb6) (hO.here hb6) (hP.here hb6) ht)
    have C5 : Hid (Cells (((((w.alloc (.cells #[.slice aT T.length cT, .slice aO O.length cO, .slice aP P.length cP] 27)).alloc (.cells #[.int .i64 leaf] 2)).alloc (.cells #[.int .i64 now] 2)).alloc (.cells #[.int .i64 n] 2)).alloc (.cells #[.int .i64 (-2)] 2)) _) := c5
    clear c5 c6 hc6 hent nd hb6 f4 f46
    go_enter Try.func11, Try.ntmps11
    go_wp2_with (first | (go_at_call 48; refine hk.mono ?_; clear hk; rintro e w2 ⟨rfl, hb2⟩; have ⟨_, _, _, _, _, _, ⟨_, j6⟩, _⟩ := Cells.next hb2 C5.out))
    go_ret
    exact ⟨rfl, below_two hb5 hb2⟩
  · have hk := att_on _ hent (p := fun k => k = w.heap.size + 4) (R := fun W => W.cell? ⟨w.heap.size + 4, 0, none⟩ = some (.int .i64 (askAns T O P leaf now n))) (by rw [s5]; omega) (fun W v h => (set_far (show (((((w.alloc (.cells #[.slice aT T.length cT, .slice aO O.length cO, .slice aP P.length cP] 27)).alloc (.cells #[.int .i64 leaf] 2)).alloc (.cells #[.int .i64 now] 2)).alloc (.cells #[.int .i64 n] 2)).alloc (.cells #[.int .i64 (-2)] 2)).heap.size ≠ w.heap.size + 4 by rw [s5]; omega)).trans h) (ask1_yes cT cO cP leaf now n hc6 (hT.here hb6) (hO.here hb6) (hP.here hb6) c6.2.2.2.2.2.2.1.2 f46 ht)
    clear c5 c6 hc6 hent nd hb6 f4 f46
    go_enter Try.func11, Try.ntmps11
    go_wp2_with (first | (go_at_call 48; refine hk.mono ?_; clear hk; rintro e w2 ⟨rfl, hcv, ho⟩))
    go_ret
    exact ⟨rfl, hb5.trans (ho.below (fun k e => by omega) hb5.size)⟩
end Go.Proofs.Ytmophpbfaonfmad
