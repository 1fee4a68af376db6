/- What impl.Spend answers. -/
import Derived.Test.YtmophpbfaonfmacImplSpent
import Derived.Test.YtmophpbfaonfmacSpendMath2
import Derived.Test.YtmophpbfaonfmacGrpO
namespace Go.Proofs.Ytmophpbfaonfmac
open Go.ChangeShapes Go.WideShapes Go.ChangeAt Go.RowKit
set_option maxRecDepth 100000
set_option linter.unusedVariables false
set_option linter.unusedSimpArgs false

theorem qv_row {w : World} {lo n c : Nat} {a : Option Addr} {xs : List Q4} (h : QV w lo (.slice a n c) xs) (hp : 0 < xs.length) : ∃ g cap, Value.slice a n c = .slice (some ⟨g, 0, none⟩) xs.length (cap + 1) ∧ lo ≤ g ∧ g < w.heap.size ∧ QFill w g xs.length xs xs.length ∧ xs.length ≤ cap + 1 := by
  rcases h.room with ⟨g, cap, e, h1, h2, f, hc⟩ | ⟨_, e⟩
  · exact ⟨g, cap, e, h1, h2, f, hc⟩
  · subst e
    cases hp
/-- The rows of a Lend that has classes. -/
theorem lv_rows {w : World} {lo : Nat} {a1 : Option Addr} {n1 c1 : Nat} {a2 : Option Addr} {n2 c2 : Nat} {a3 : Option Addr} {n3 c3 : Nat} {T O P : List Q4} (h : LV w lo (.slice a1 n1 c1) (.slice a2 n2 c2) (.slice a3 n3 c3) T O P) (hp : 0 < T.length) (lO : O.length = T.length) (lP : P.length = T.length) :
    ∃ gT gO gP d1 d2 d3, Value.slice a1 n1 c1 = .slice (some ⟨gT, 0, none⟩) T.length d1 ∧ Value.slice a2 n2 c2 = .slice (some ⟨gO, 0, none⟩) O.length d2 ∧ Value.slice a3 n3 c3 = .slice (some ⟨gP, 0, none⟩) P.length d3 ∧ Rows3 w gT gO gP ∧ lo ≤ gT ∧ lo ≤ gO ∧ lo ≤ gP ∧ QFill w gT T.length T T.length ∧ QFill w gO O.length O O.length ∧ QFill w gP P.length P P.length ∧ T.length ≤ d1 ∧ O.length ≤ d2 ∧ P.length ≤ d3 := by
  obtain ⟨gT, d1, e1, x1, y1, f1, z1⟩ := qv_row h.t hp
  obtain ⟨gO, d2, e2, x2, y2, f2, z2⟩ := qv_row h.o (by omega)
  obtain ⟨gP, d3, e3, x3, y3, f3, z3⟩ := qv_row h.p (by omega)
  have h1 := h.to
  have h2 := h.tp
  have h3 := h.op
  rw [e1] at h1 h2
  rw [e2] at h1 h3
  rw [e3] at h2 h3
  exact ⟨gT, gO, gP, d1 + 1, d2 + 1, d3 + 1, e1, e2, e3, ⟨y1, y2, y3, fun e => h1 gT rfl (by rw [e]; rfl), fun e => h2 gT rfl (by rw [e]; rfl), fun e => h3 gO rfl (by rw [e]; rfl)⟩, x1, x2, x3, f1, f2, f3, z1, z2, z3⟩
theorem room_is {g n c h : Nat} (e : roomB (.slice (some ⟨g, 0, none⟩) n c) = some h) : g = h := Option.some.inj (room_own e)
theorem lv_of {w w2 w3 : World} {gT gO gP d1 d2 d3 : Nat} {T O P O2 P2 : List Q4} (ft : QFill w3 gT T.length T T.length) (fo : QFill w3 gO O2.length O2 O2.length) (fp : QFill w3 gP P2.length P2 P2.length) (r : Rows3 w2 gT gO gP) (on : OnlyP (fun k => k = gO ∨ k = gP) w2 w3) (g1 : w.heap.size ≤ gT) (g2 : w.heap.size ≤ gO) (g3 : w.heap.size ≤ gP) (lO : O2.length = O.length) (lP : P2.length = P.length) (k1 : T.length ≤ d1) (k2 : O.length ≤ d2) (k3 : P.length ≤ d3) :
    LV w3 w.heap.size (.slice (some ⟨gT, 0, none⟩) T.length d1) (.slice (some ⟨gO, 0, none⟩) O.length d2) (.slice (some ⟨gP, 0, none⟩) P.length d3) T O2 P2 := by
  have hs := on.size
  have r1 := r.t
  have r2 := r.o
  have r3 := r.p
  refine ⟨.inl ⟨gT, d1, rfl, g1, by omega, ft, k1⟩, .inl ⟨gO, d2, by rw [lO], g2, by omega, fo, by omega⟩, .inl ⟨gP, d3, by rw [lP], g3, by omega, fp, by omega⟩, fun g e1 e2 => ?_, fun g e1 e2 => ?_, fun g e1 e2 => ?_⟩
  · have := r.ab; have := room_is e1; have := room_is e2; omega
  · have := r.ac; have := room_is e1; have := room_is e2; omega
  · have := r.bc; have := room_is e1; have := room_is e2; omega
theorem below_rows {w w2 w3 : World} {gO gP : Nat} (h : Below w.heap.size w w2) (on : OnlyP (fun k => k = gO ∨ k = gP) w2 w3) (g2 : w.heap.size ≤ gO) (g3 : w.heap.size ≤ gP) : Below w.heap.size w w3 := h.trans (on.below (fun k e => by omega) h.size)
theorem cells_put3 {W : World} {cs : List (Nat × Nat × Value)} {bl : Nat} (h : Cells W cs) (hn : ∀ c ∈ cs, c.1 ≠ bl) (a b c : Value) : Cells (((W.setCell ⟨bl, 0, none⟩ a).setCell ⟨bl, 1, none⟩ b).setCell ⟨bl, 2, none⟩ c) cs :=
  have k : ∀ x ∈ cs, some bl ≠ some x.1 := fun x hx e => hn x hx (Option.some.inj e).symm
  Cells.onlyO (OnlyO.of_grown (grown_set _ bl 2 c)) k (Cells.onlyO (OnlyO.of_grown (grown_set _ bl 1 b)) k (Cells.onlyO (OnlyO.of_grown (grown_set W bl 0 a)) k h))
set_option maxHeartbeats 2000000 in
theorem spent_no {w : World} {aT aO aP : Option Addr} (cT nO cO nP cP : Nat) {T : List Q4} (leaf n : Int) (hT : Quad w.heap.size w aT T) (hl : T.length ≤ 30) (hoff : ((hasB T leaf && leafB T leaf) && segB n) = false) :
    Calls Try.prog 97 #[lendV aT T.length cT aO nO cO aP nP cP, .int .i64 leaf, .int .i64 n] w fun e w' => e = gaveUp ∧ Below w.heap.size w w' := by
  have nb : Below w.heap.size w ((w.alloc (.cells #[.slice aT T.length cT, .slice aO nO cO, .slice aP nP cP] 64)).alloc (.cells #[.slice none 0 0, .slice none 0 0, .slice none 0 0] 64)) := by go_grown
  go_enter Try.func97, Try.ntmps97
  go_wp2_with (first | (go_at_call 124; refine (lender_no cT nO cO nP cP leaf n (hT.here nb) hl hoff).mono ?_; rintro e w3 ⟨rfl, hb3⟩))
  exact ⟨rfl, rfl, below_two nb hb3⟩
set_option maxHeartbeats 2000000 in
theorem spend1_no {w : World} {b0 b1 b2 b3 bl bs : Nat} {aT aO aP : Option Addr} (cT cO cP : Nat) {T O P : List Q4} (leaf now n : Int) (hc : Cells w [(b0, 0, .slice aT T.length cT), (b0, 1, .slice aO O.length cO), (b0, 2, .slice aP P.length cP), (b1, 0, .int .i64 now), (b2, 0, .int .i64 leaf), (b3, 0, .int .i64 n)]) (hT : Quad w.heap.size w aT T) (hO : Quad w.heap.size w aO O) (hP : Quad w.heap.size w aP P) (ht : toldB T O P leaf now n = false) :
    Calls Try.prog 96 #[.pointer (some ⟨b0, 0, none⟩), .pointer (some ⟨b1, 0, none⟩), .pointer (some ⟨b2, 0, none⟩), .pointer (some ⟨b3, 0, none⟩), .pointer (some ⟨bl, 0, none⟩), .pointer (some ⟨bs, 0, none⟩)] w fun e W => e = gaveUp ∧ Below w.heap.size w W := by
  rw [told_mov] at ht
  have HS : Hid (∀ W, Cells W [(b0, 0, .slice aT T.length cT), (b0, 1, .slice aO O.length cO), (b0, 2, .slice aP P.length cP), (b1, 0, .int .i64 now), (b2, 0, .int .i64 leaf), (b3, 0, .int .i64 n)] → (fun w' => w'.cell? ⟨b0, 0, none⟩ = some (.slice aT T.length cT) ∧ w'.cell? ⟨b0, 1, none⟩ = some (.slice aO O.length cO) ∧ w'.cell? ⟨b0, 2, none⟩ = some (.slice aP P.length cP) ∧ w'.cell? ⟨b1, 0, none⟩ = some (.int .i64 now) ∧ w'.cell? ⟨b2, 0, none⟩ = some (.int .i64 leaf) ∧ w'.cell? ⟨b3, 0, none⟩ = some (.int .i64 n)) W) := fun W h => (by have ⟨⟨_, e0⟩, ⟨_, e1⟩, ⟨_, e2⟩, ⟨_, e3⟩, ⟨_, e4⟩, ⟨_, e5⟩, _⟩ := h; exact ⟨e0, e1, e2, e3, e4, e5⟩)
  have HC : Hid (∀ W, Below w.heap.size w W → Cells W [(b0, 0, .slice aT T.length cT), (b0, 1, .slice aO O.length cO), (b0, 2, .slice aP P.length cP), (b1, 0, .int .i64 now), (b2, 0, .int .i64 leaf), (b3, 0, .int .i64 n)]) := fun W h => Cells.next h hc
  have hw0 : Below w.heap.size w w.drew := (Below.refl _ _).drew
  clear hc
  cases hm : movB T O P T now
  · clear ht
    go_enter Try.func96, Try.ntmps96
    refine region_late (S := fun w' => w'.cell? ⟨b0, 0, none⟩ = some (.slice aT T.length cT) ∧ w'.cell? ⟨b0, 1, none⟩ = some (.slice aO O.length cO) ∧ w'.cell? ⟨b0, 2, none⟩ = some (.slice aP P.length cP) ∧ w'.cell? ⟨b1, 0, none⟩ = some (.int .i64 now) ∧ w'.cell? ⟨b2, 0, none⟩ = some (.int .i64 leaf) ∧ w'.cell? ⟨b3, 0, none⟩ = some (.int .i64 n)) 12 (by kernel_rfl) (HS.out _ (HC.out _ (Below.refl _ _).drew)) (fun hS => ?_)
    refine late_take (i := 0) (v := ?_) rfl (by kernel_rfl) (by kernel_rfl) (by kernel_rfl) (by kernel_rfl) (fun _ _ _ h => h) (Or.inl ⟨by rfl, ?_⟩) (by assumption) ?_
    rotate_left 1
    · (intro w' hSw; (try dsimp only at hSw); go_simp; try with_reducible rfl)
    try simp only [Act.put, List.setIfInBounds_toArray, List.set_cons_zero, List.set_cons_succ, List.getElem_toArray, List.getElem_cons_succ, List.getElem_cons_zero]
    refine late_take (i := 1) (v := ?_) rfl (by kernel_rfl) (by kernel_rfl) (by kernel_rfl) (by kernel_rfl) (fun _ _ _ h => h) (Or.inl ⟨by rfl, ?_⟩) (by assumption) ?_
    rotate_left 1
    · (intro w' hSw; (try dsimp only at hSw); go_simp; try with_reducible rfl)
    try simp only [Act.put, List.setIfInBounds_toArray, List.set_cons_zero, List.set_cons_succ, List.getElem_toArray, List.getElem_cons_succ, List.getElem_cons_zero]
    refine late_take (i := 2) (v := ?_) rfl (by kernel_rfl) (by kernel_rfl) (by kernel_rfl) (by kernel_rfl) (fun _ _ _ h => h) (Or.inl ⟨by rfl, ?_⟩) (by assumption) ?_
    rotate_left 1
    · (intro w' hSw; (try dsimp only at hSw); go_simp; try with_reducible rfl)
    try simp only [Act.put, List.setIfInBounds_toArray, List.set_cons_zero, List.set_cons_succ, List.getElem_toArray, List.getElem_cons_succ, List.getElem_cons_zero]
    refine late_take (i := 3) (v := ?_) rfl (by kernel_rfl) (by kernel_rfl) (by kernel_rfl) (by kernel_rfl) (fun _ _ _ h => h) (Or.inl ⟨by rfl, ?_⟩) (by assumption) ?_
    rotate_left 1
    · (intro w' hSw; (try dsimp only at hSw); go_simp; try with_reducible rfl)
    try simp only [Act.put, List.setIfInBounds_toArray, List.set_cons_zero, List.set_cons_succ, List.getElem_toArray, List.getElem_cons_succ, List.getElem_cons_zero]
    refine late_take (i := 5) (v := ?_) rfl (by kernel_rfl) (by kernel_rfl) (by kernel_rfl) (by kernel_rfl) (fun _ _ _ h => h) (Or.inl ⟨by rfl, ?_⟩) (by assumption) ?_
    rotate_left 1
    · (intro w' hSw; (try dsimp only at hSw); go_simp; try with_reducible rfl)
    try simp only [Act.put, List.setIfInBounds_toArray, List.set_cons_zero, List.set_cons_succ, List.getElem_toArray, List.getElem_cons_succ, List.getElem_cons_zero]
    refine late_take (i := 6) (v := ?_) rfl (by kernel_rfl) (by kernel_rfl) (by kernel_rfl) (by kernel_rfl) (fun _ _ _ h => h) (Or.inl ⟨by rfl, ?_⟩) (by assumption) ?_
    rotate_left 1
    · (intro w' hSw; (try dsimp only at hSw); go_simp; try with_reducible rfl)
    try simp only [Act.put, List.setIfInBounds_toArray, List.set_cons_zero, List.set_cons_succ, List.getElem_toArray, List.getElem_cons_succ, List.getElem_cons_zero]
    refine late_one (i := 4) (by kernel_rfl) rfl (fun K hK => ?_)
    go_simp
    refine (movedTo_no cT cO cP cT now (hT.here hw0) (hO.here hw0) (hP.here hw0) (hT.here hw0) hm).mono ?_
    rintro e w2 ⟨rfl, hb2⟩
    have hb2 := undrew hb2
    exact ⟨rfl, rfl, hb2⟩
  · have hoff : ((hasB T leaf && leafB T leaf) && segB n) = false := by rw [hm, Bool.true_and] at ht; exact ht
    have hl : lendB T O P = true := by
      have h := hm
      unfold movB at h
      simp only [Bool.and_eq_true] at h
      exact h.1.1.1
    have h30 := (lend_of hl).tree.l1
    clear ht hl
    go_enter Try.func96, Try.ntmps96
    refine region_late (S := fun w' => w'.cell? ⟨b0, 0, none⟩ = some (.slice aT T.length cT) ∧ w'.cell? ⟨b0, 1, none⟩ = some (.slice aO O.length cO) ∧ w'.cell? ⟨b0, 2, none⟩ = some (.slice aP P.length cP) ∧ w'.cell? ⟨b1, 0, none⟩ = some (.int .i64 now) ∧ w'.cell? ⟨b2, 0, none⟩ = some (.int .i64 leaf) ∧ w'.cell? ⟨b3, 0, none⟩ = some (.int .i64 n)) 12 (by kernel_rfl) (HS.out _ (HC.out _ (Below.refl _ _).drew)) (fun hS => ?_)
    refine late_take (i := 0) (v := ?_) rfl (by kernel_rfl) (by kernel_rfl) (by kernel_rfl) (by kernel_rfl) (fun _ _ _ h => h) (Or.inl ⟨by rfl, ?_⟩) (by assumption) ?_
    rotate_left 1
    · (intro w' hSw; (try dsimp only at hSw); go_simp; try with_reducible rfl)
    try simp only [Act.put, List.setIfInBounds_toArray, List.set_cons_zero, List.set_cons_succ, List.getElem_toArray, List.getElem_cons_succ, List.getElem_cons_zero]
    refine late_take (i := 1) (v := ?_) rfl (by kernel_rfl) (by kernel_rfl) (by kernel_rfl) (by kernel_rfl) (fun _ _ _ h => h) (Or.inl ⟨by rfl, ?_⟩) (by assumption) ?_
    rotate_left 1
    · (intro w' hSw; (try dsimp only at hSw); go_simp; try with_reducible rfl)
    try simp only [Act.put, List.setIfInBounds_toArray, List.set_cons_zero, List.set_cons_succ, List.getElem_toArray, List.getElem_cons_succ, List.getElem_cons_zero]
    refine late_take (i := 2) (v := ?_) rfl (by kernel_rfl) (by kernel_rfl) (by kernel_rfl) (by kernel_rfl) (fun _ _ _ h => h) (Or.inl ⟨by rfl, ?_⟩) (by assumption) ?_
    rotate_left 1
    · (intro w' hSw; (try dsimp only at hSw); go_simp; try with_reducible rfl)
    try simp only [Act.put, List.setIfInBounds_toArray, List.set_cons_zero, List.set_cons_succ, List.getElem_toArray, List.getElem_cons_succ, List.getElem_cons_zero]
    refine late_take (i := 3) (v := ?_) rfl (by kernel_rfl) (by kernel_rfl) (by kernel_rfl) (by kernel_rfl) (fun _ _ _ h => h) (Or.inl ⟨by rfl, ?_⟩) (by assumption) ?_
    rotate_left 1
    · (intro w' hSw; (try dsimp only at hSw); go_simp; try with_reducible rfl)
    try simp only [Act.put, List.setIfInBounds_toArray, List.set_cons_zero, List.set_cons_succ, List.getElem_toArray, List.getElem_cons_succ, List.getElem_cons_zero]
    refine late_take (i := 5) (v := ?_) rfl (by kernel_rfl) (by kernel_rfl) (by kernel_rfl) (by kernel_rfl) (fun _ _ _ h => h) (Or.inl ⟨by rfl, ?_⟩) (by assumption) ?_
    rotate_left 1
    · (intro w' hSw; (try dsimp only at hSw); go_simp; try with_reducible rfl)
    try simp only [Act.put, List.setIfInBounds_toArray, List.set_cons_zero, List.set_cons_succ, List.getElem_toArray, List.getElem_cons_succ, List.getElem_cons_zero]
    refine late_take (i := 6) (v := ?_) rfl (by kernel_rfl) (by kernel_rfl) (by kernel_rfl) (by kernel_rfl) (fun _ _ _ h => h) (Or.inl ⟨by rfl, ?_⟩) (by assumption) ?_
    rotate_left 1
    · (intro w' hSw; (try dsimp only at hSw); go_simp; try with_reducible rfl)
    try simp only [Act.put, List.setIfInBounds_toArray, List.set_cons_zero, List.set_cons_succ, List.getElem_toArray, List.getElem_cons_succ, List.getElem_cons_zero]
    refine late_one (i := 4) (by kernel_rfl) rfl (fun K hK => ?_)
    go_simp
    (refine (movedTo_yes cT cO cP cT now (hT.here hw0) (hO.here hw0) (hP.here hw0) (hT.here hw0) hm).mono ?_; rintro e w2 ⟨a1, n1, c1, a2, n2, c2, a3, n3, c3, rfl, hl, hb2⟩; have hb2 := undrew hb2; have hS2 := HS.out _ (HC.out _ hb2); obtain ⟨rfl, q1⟩ := hl.t.quad; simp only [])
    refine hK.out _ _ (by assumption) (fun _ => ?_)
    try simp only [Act.put, List.setIfInBounds_toArray, List.set_cons_zero, List.set_cons_succ, List.getElem_toArray, List.getElem_cons_succ, List.getElem_cons_zero]
    refine late_one (i := 7) (by kernel_rfl) rfl (fun K hK => ?_)
    go_simp
    refine (spent_no c1 _ c2 _ c3 leaf n q1 h30 hoff).mono ?_
    rintro e w3 ⟨rfl, hb3⟩
    exact ⟨rfl, rfl, below_two hb2 hb3⟩
set_option maxHeartbeats 4000000 in
theorem spend1_none {w : World} {b0 b1 b2 b3 bl bs : Nat} {aT aO aP : Option Addr} (cT cO cP : Nat) {T O P : List Q4} (leaf now n : Int) (hc : Cells w [(b0, 0, .slice aT T.length cT), (b0, 1, .slice aO O.length cO), (b0, 2, .slice aP P.length cP), (b1, 0, .int .i64 now), (b2, 0, .int .i64 leaf), (b3, 0, .int .i64 n)]) (hT : Quad w.heap.size w aT T) (hO : Quad w.heap.size w aO O) (hP : Quad w.heap.size w aP P) {u0 u1 u2 us : Value} (kv0 : w.cell? ⟨bl, 0, none⟩ = some u0) (kv1 : w.cell? ⟨bl, 1, none⟩ = some u1) (kv2 : w.cell? ⟨bl, 2, none⟩ = some u2) (hz : ∀ o : Nat, w.frozen? ⟨bl, o, none⟩ = false) (ks : w.cell? ⟨bs, 0, none⟩ = some us) (hzs : w.frozen? ⟨bs, 0, none⟩ = false) (n0 : b0 ≠ bl) (n1 : b1 ≠ bl) (n2 : b2 ≠ bl) (n3 : b3 ≠ bl) (nbs : bl ≠ bs) (ht : toldB T O P leaf now n = true) (hwho : lendAns (movO T O now) (movP T P now) n (pathOf T leaf) = -1) :
    Calls Try.prog 96 #[.pointer (some ⟨b0, 0, none⟩), .pointer (some ⟨b1, 0, none⟩), .pointer (some ⟨b2, 0, none⟩), .pointer (some ⟨b3, 0, none⟩), .pointer (some ⟨bl, 0, none⟩), .pointer (some ⟨bs, 0, none⟩)] w fun e W => e = .returned (.tuple #[]) ∧ (InVar bl w.heap.size T (movO T O now) (movP T P now) W ∧ W.cell? ⟨bs, 0, none⟩ = some (.bool false)) ∧ OnlyP (fun k => k = bl ∨ k = bs) w W := by
  have hd := (told_of ht).lend
  have htm := (told_of ht).isTime
  have lO : Hid (O.length = T.length) := hd.lo
  have lP : Hid (P.length = T.length) := hd.lp
  have hpos : 0 < T.length := hd.tree.l0
  obtain ⟨hm, hh, hlf, hsg⟩ := told_parts ht
  have zv : bl < w.heap.size := World.block_lt_of_cell? w _ kv0
  have zs : bs < w.heap.size := World.block_lt_of_cell? w _ ks
  have hnb : ∀ c ∈ [(b0, 0, Value.slice aT T.length cT), (b0, 1, .slice aO O.length cO), (b0, 2, .slice aP P.length cP), (b1, 0, .int .i64 now), (b2, 0, .int .i64 leaf), (b3, 0, .int .i64 n)], c.1 ≠ bl := by
    intro c hc'
    simp only [List.mem_cons, List.not_mem_nil, or_false] at hc'
    rcases hc' with rfl | rfl | rfl | rfl | rfl | rfl <;> assumption
  have HS : Hid (∀ W, Cells W [(b0, 0, .slice aT T.length cT), (b0, 1, .slice aO O.length cO), (b0, 2, .slice aP P.length cP), (b1, 0, .int .i64 now), (b2, 0, .int .i64 leaf), (b3, 0, .int .i64 n)] → (fun w' => w'.cell? ⟨b0, 0, none⟩ = some (.slice aT T.length cT) ∧ w'.cell? ⟨b0, 1, none⟩ = some (.slice aO O.length cO) ∧ w'.cell? ⟨b0, 2, none⟩ = some (.slice aP P.length cP) ∧ w'.cell? ⟨b1, 0, none⟩ = some (.int .i64 now) ∧ w'.cell? ⟨b2, 0, none⟩ = some (.int .i64 leaf) ∧ w'.cell? ⟨b3, 0, none⟩ = some (.int .i64 n)) W) := fun W h => (by have ⟨⟨_, e0⟩, ⟨_, e1⟩, ⟨_, e2⟩, ⟨_, e3⟩, ⟨_, e4⟩, ⟨_, e5⟩, _⟩ := h; exact ⟨e0, e1, e2, e3, e4, e5⟩)
  have HC : Hid (∀ W, Below w.heap.size w W → Cells W [(b0, 0, .slice aT T.length cT), (b0, 1, .slice aO O.length cO), (b0, 2, .slice aP P.length cP), (b1, 0, .int .i64 now), (b2, 0, .int .i64 leaf), (b3, 0, .int .i64 n)]) := fun W h => Cells.next h hc
  have hw0 : Below w.heap.size w w.drew := (Below.refl _ _).drew
  clear hc
  clear ht hd htm
  go_enter Try.func96, Try.ntmps96
  refine region_late (S := fun w' => w'.cell? ⟨b0, 0, none⟩ = some (.slice aT T.length cT) ∧ w'.cell? ⟨b0, 1, none⟩ = some (.slice aO O.length cO) ∧ w'.cell? ⟨b0, 2, none⟩ = some (.slice aP P.length cP) ∧ w'.cell? ⟨b1, 0, none⟩ = some (.int .i64 now) ∧ w'.cell? ⟨b2, 0, none⟩ = some (.int .i64 leaf) ∧ w'.cell? ⟨b3, 0, none⟩ = some (.int .i64 n)) 12 (by kernel_rfl) (HS.out _ (HC.out _ (Below.refl _ _).drew)) (fun hS => ?_)
  refine late_take (i := 0) (v := ?_) rfl (by kernel_rfl) (by kernel_rfl) (by kernel_rfl) (by kernel_rfl) (fun _ _ _ h => h) (Or.inl ⟨by rfl, ?_⟩) (by assumption) ?_
  rotate_left 1
  · (intro w' hSw; (try dsimp only at hSw); go_simp; try with_reducible rfl)
  try simp only [Act.put, List.setIfInBounds_toArray, List.set_cons_zero, List.set_cons_succ, List.getElem_toArray, List.getElem_cons_succ, List.getElem_cons_zero]
  refine late_take (i := 1) (v := ?_) rfl (by kernel_rfl) (by kernel_rfl) (by kernel_rfl) (by kernel_rfl) (fun _ _ _ h => h) (Or.inl ⟨by rfl, ?_⟩) (by assumption) ?_
  rotate_left 1
  · (intro w' hSw; (try dsimp only at hSw); go_simp; try with_reducible rfl)
  try simp only [Act.put, List.setIfInBounds_toArray, List.set_cons_zero, List.set_cons_succ, List.getElem_toArray, List.getElem_cons_succ, List.getElem_cons_zero]
  refine late_take (i := 2) (v := ?_) rfl (by kernel_rfl) (by kernel_rfl) (by kernel_rfl) (by kernel_rfl) (fun _ _ _ h => h) (Or.inl ⟨by rfl, ?_⟩) (by assumption) ?_
  rotate_left 1
  · (intro w' hSw; (try dsimp only at hSw); go_simp; try with_reducible rfl)
  try simp only [Act.put, List.setIfInBounds_toArray, List.set_cons_zero, List.set_cons_succ, List.getElem_toArray, List.getElem_cons_succ, List.getElem_cons_zero]
  refine late_take (i := 3) (v := ?_) rfl (by kernel_rfl) (by kernel_rfl) (by kernel_rfl) (by kernel_rfl) (fun _ _ _ h => h) (Or.inl ⟨by rfl, ?_⟩) (by assumption) ?_
  rotate_left 1
  · (intro w' hSw; (try dsimp only at hSw); go_simp; try with_reducible rfl)
  try simp only [Act.put, List.setIfInBounds_toArray, List.set_cons_zero, List.set_cons_succ, List.getElem_toArray, List.getElem_cons_succ, List.getElem_cons_zero]
  refine late_take (i := 5) (v := ?_) rfl (by kernel_rfl) (by kernel_rfl) (by kernel_rfl) (by kernel_rfl) (fun _ _ _ h => h) (Or.inl ⟨by rfl, ?_⟩) (by assumption) ?_
  rotate_left 1
  · (intro w' hSw; (try dsimp only at hSw); go_simp; try with_reducible rfl)
  try simp only [Act.put, List.setIfInBounds_toArray, List.set_cons_zero, List.set_cons_succ, List.getElem_toArray, List.getElem_cons_succ, List.getElem_cons_zero]
  refine late_take (i := 6) (v := ?_) rfl (by kernel_rfl) (by kernel_rfl) (by kernel_rfl) (by kernel_rfl) (fun _ _ _ h => h) (Or.inl ⟨by rfl, ?_⟩) (by assumption) ?_
  rotate_left 1
  · (intro w' hSw; (try dsimp only at hSw); go_simp; try with_reducible rfl)
  try simp only [Act.put, List.setIfInBounds_toArray, List.set_cons_zero, List.set_cons_succ, List.getElem_toArray, List.getElem_cons_succ, List.getElem_cons_zero]
  refine late_one (i := 4) (by kernel_rfl) rfl (fun K hK => ?_)
  go_simp
  (refine (movedTo_yes cT cO cP cT now (hT.here hw0) (hO.here hw0) (hP.here hw0) (hT.here hw0) hm).mono ?_; rintro e w2 ⟨a1, n1, c1, a2, n2, c2, a3, n3, c3, rfl, hl, hb2⟩; have hb2 := undrew hb2; have hS2 := HS.out _ (HC.out _ hb2); obtain ⟨gT, gO, gP, d1, d2, d3, e1, e2, e3, rr, g1, g2, g3, ft, fo, fp, k1, k2, k3⟩ := lv_rows hl hpos (movO_length lO.out) (movP_length lP.out); cases e1; cases e2; cases e3; clear hl; simp only [])
  refine hK.out _ _ (by assumption) (fun _ => ?_)
  try simp only [Act.put, List.setIfInBounds_toArray, List.set_cons_zero, List.set_cons_succ, List.getElem_toArray, List.getElem_cons_succ, List.getElem_cons_zero]
  refine late_one (i := 7) (by kernel_rfl) rfl (fun K hK => ?_)
  go_simp
  (refine (spent_none leaf n rr ft fo fp (movO_length lO.out) (movP_length lP.out) hh hlf hsg hwho).mono ?_; rintro e w3 ⟨rfl, ft3, fo3, fp3, on3⟩; have hb3 : Below w.heap.size w w3 := below_rows hb2 on3 g2 g3; have C3 : Hid (Cells w3 [(b0, 0, .slice aT T.length cT), (b0, 1, .slice aO O.length cO), (b0, 2, .slice aP P.length cP), (b1, 0, .int .i64 now), (b2, 0, .int .i64 leaf), (b3, 0, .int .i64 n)]) := HC.out _ hb3; have hS3 := HS.out _ C3.out; have zs3 := hb3.size; have v0 := (below_cells hb3 _ _ zv).trans kv0; have v1 := (below_cells hb3 _ _ zv).trans kv1; have v2 := (below_cells hb3 _ _ zv).trans kv2; have vf : ∀ o : Nat, w3.frozen? ⟨bl, o, none⟩ = false := fun o => (below_frozens hb3 _ _ zv).trans (hz o); have vs := (below_cells hb3 _ _ zs).trans ks; have vsf := (below_frozens hb3 _ _ zs).trans hzs; simp only [])
  refine hK.out _ _ (by assumption) (fun _ => ?_)
  try simp only [Act.put, List.setIfInBounds_toArray, List.set_cons_zero, List.set_cons_succ, List.getElem_toArray, List.getElem_cons_succ, List.getElem_cons_zero]
  refine late_take (i := 8) (v := ?_) rfl (by kernel_rfl) (by kernel_rfl) (by kernel_rfl) (by kernel_rfl) (fun _ _ _ h => h) (Or.inl ⟨by rfl, ?_⟩) (by assumption) ?_
  rotate_left 1
  · (intro w' hSw; (try dsimp only at hSw); go_simp; try with_reducible rfl)
  try simp only [Act.put, List.setIfInBounds_toArray, List.set_cons_zero, List.set_cons_succ, List.getElem_toArray, List.getElem_cons_succ, List.getElem_cons_zero]
  refine late_take (i := 9) (v := ?_) rfl (by kernel_rfl) (by kernel_rfl) (by kernel_rfl) (by kernel_rfl) (fun _ _ _ h => h) (Or.inl ⟨by rfl, ?_⟩) (by assumption) ?_
  rotate_left 1
  · (intro w' hSw; (try dsimp only at hSw); go_simp; try with_reducible rfl)
  try simp only [Act.put, List.setIfInBounds_toArray, List.set_cons_zero, List.set_cons_succ, List.getElem_toArray, List.getElem_cons_succ, List.getElem_cons_zero]
  refine late_take (i := 10) (v := ?_) rfl (by kernel_rfl) (by kernel_rfl) (by kernel_rfl) (by kernel_rfl) (fun _ _ _ h => h) (Or.inl ⟨by rfl, ?_⟩) (by assumption) ?_
  rotate_left 1
  · (intro w' hSw; (try dsimp only at hSw); go_simp; try with_reducible rfl)
  try simp only [Act.put, List.setIfInBounds_toArray, List.set_cons_zero, List.set_cons_succ, List.getElem_toArray, List.getElem_cons_succ, List.getElem_cons_zero]
  refine late_one (i := 11) (by kernel_rfl) rfl (fun K hK => ?_)
  go_simp
  have HP : Hid (InVar bl w.heap.size T (movO T O now) (movP T P now) (((w3.setCell ⟨bl, 0, none⟩ (.slice (some ⟨gT, 0, none⟩) T.length c1)).setCell ⟨bl, 1, none⟩ (.slice (some ⟨gO, 0, none⟩) (movO T O now).length c2)).setCell ⟨bl, 2, none⟩ (.slice (some ⟨gP, 0, none⟩) (movP T P now).length c3)) ∧ OnlyP (fun k => k = bl) w (((w3.setCell ⟨bl, 0, none⟩ (.slice (some ⟨gT, 0, none⟩) T.length c1)).setCell ⟨bl, 1, none⟩ (.slice (some ⟨gO, 0, none⟩) (movO T O now).length c2)).setCell ⟨bl, 2, none⟩ (.slice (some ⟨gP, 0, none⟩) (movP T P now).length c3))) := var_put (lv_of ft3 fo3 fp3 rr on3 g1 g2 g3 rfl rfl k1 k2 k3) hb3 zv v0 v1 v2
  have hS4 := HS.out _ (cells_put3 C3.out hnb (.slice (some ⟨gT, 0, none⟩) T.length c1) (.slice (some ⟨gO, 0, none⟩) (movO T O now).length c2) (.slice (some ⟨gP, 0, none⟩) (movP T P now).length c3))
  obtain ⟨v9, hv9⟩ : ∃ v, ((w3.setCell ⟨bl, 0, none⟩ (.slice (some ⟨gT, 0, none⟩) T.length c1)).setCell ⟨bl, 1, none⟩ (.slice (some ⟨gO, 0, none⟩) (movO T O now).length c2)).setCell ⟨bl, 2, none⟩ (.slice (some ⟨gP, 0, none⟩) (movP T P now).length c3) = v := ⟨_, rfl⟩
  have vs9 : v9.cell? ⟨bs, 0, none⟩ = some us := (by rw [← hv9]; exact (set_far nbs).trans ((set_far nbs).trans ((set_far nbs).trans vs)))
  have vsf9 : v9.frozen? ⟨bs, 0, none⟩ = false := (by rw [← hv9]; simpa using vsf)
  rw [hv9] at HP hS4 ⊢
  refine hK.out _ _ (by assumption) (fun _ => ?_)
  try simp only [Act.put, List.setIfInBounds_toArray, List.set_cons_zero, List.set_cons_succ, List.getElem_toArray, List.getElem_cons_succ, List.getElem_cons_zero]
  refine late_last (by kernel_rfl) rfl (by kernel_rfl) (fun K hK => ?_)
  go_simp
  refine hK.out _ _ ?_
  try simp only [Act.put, List.setIfInBounds_toArray, List.set_cons_zero, List.set_cons_succ, List.getElem_toArray, List.getElem_cons_succ, List.getElem_cons_zero]
  go_wp2
  go_end0
  have hp := HP.out
  refine ⟨rfl, ⟨?_, World.cell?_setCell_same' _ _ _ (by rw [vs9]; rfl)⟩, ?_⟩
  · exact hp.1.set zs (fun e => nbs e.symm) _
  · refine ⟨hp.2.os, hp.2.tape, hp.2.output, by simpa using hp.2.size, fun k hk hn => ?_⟩
    rw [Below.heap_setCell _ _ _ _ (by simp only; omega)]
    exact hp.2.block k hk (by omega)
set_option maxHeartbeats 4000000 in
theorem spend1_yes {w : World} {b0 b1 b2 b3 bl bs : Nat} {aT aO aP : Option Addr} (cT cO cP : Nat) {T O P : List Q4} (leaf now n : Int) (hc : Cells w [(b0, 0, .slice aT T.length cT), (b0, 1, .slice aO O.length cO), (b0, 2, .slice aP P.length cP), (b1, 0, .int .i64 now), (b2, 0, .int .i64 leaf), (b3, 0, .int .i64 n)]) (hT : Quad w.heap.size w aT T) (hO : Quad w.heap.size w aO O) (hP : Quad w.heap.size w aP P) {u0 u1 u2 us : Value} (kv0 : w.cell? ⟨bl, 0, none⟩ = some u0) (kv1 : w.cell? ⟨bl, 1, none⟩ = some u1) (kv2 : w.cell? ⟨bl, 2, none⟩ = some u2) (hz : ∀ o : Nat, w.frozen? ⟨bl, o, none⟩ = false) (ks : w.cell? ⟨bs, 0, none⟩ = some us) (hzs : w.frozen? ⟨bs, 0, none⟩ = false) (n0 : b0 ≠ bl) (n1 : b1 ≠ bl) (n2 : b2 ≠ bl) (n3 : b3 ≠ bl) (nbs : bl ≠ bs) (ht : toldB T O P leaf now n = true) {lender : Int} (hwho : lendAns (movO T O now) (movP T P now) n (pathOf T leaf) = lender) (hle : hasB T lender = true) (vO : LvlIn 0 1000000000000000000 (movO T O now)) (vP : LvlIn 0 1000000000000000000 (movP T P now)) :
    Calls Try.prog 96 #[.pointer (some ⟨b0, 0, none⟩), .pointer (some ⟨b1, 0, none⟩), .pointer (some ⟨b2, 0, none⟩), .pointer (some ⟨b3, 0, none⟩), .pointer (some ⟨bl, 0, none⟩), .pointer (some ⟨bs, 0, none⟩)] w fun e W => e = .returned (.tuple #[]) ∧ (InVar bl w.heap.size T (payL n (movO T O now) (pathOf T lender)) (payL n (movP T P now) (pathOf T leaf)) W ∧ W.cell? ⟨bs, 0, none⟩ = some (.bool true)) ∧ OnlyP (fun k => k = bl ∨ k = bs) w W := by
  have hd := (told_of ht).lend
  have htm := (told_of ht).isTime
  have lO : Hid (O.length = T.length) := hd.lo
  have lP : Hid (P.length = T.length) := hd.lp
  have hpos : 0 < T.length := hd.tree.l0
  obtain ⟨hm, hh, hlf, hsg⟩ := told_parts ht
  have zv : bl < w.heap.size := World.block_lt_of_cell? w _ kv0
  have zs : bs < w.heap.size := World.block_lt_of_cell? w _ ks
  have hnb : ∀ c ∈ [(b0, 0, Value.slice aT T.length cT), (b0, 1, .slice aO O.length cO), (b0, 2, .slice aP P.length cP), (b1, 0, .int .i64 now), (b2, 0, .int .i64 leaf), (b3, 0, .int .i64 n)], c.1 ≠ bl := by
    intro c hc'
    simp only [List.mem_cons, List.not_mem_nil, or_false] at hc'
    rcases hc' with rfl | rfl | rfl | rfl | rfl | rfl <;> assumption
  have HS : Hid (∀ W, Cells W [(b0, 0, .slice aT T.length cT), (b0, 1, .slice aO O.length cO), (b0, 2, .slice aP P.length cP), (b1, 0, .int .i64 now), (b2, 0, .int .i64 leaf), (b3, 0, .int .i64 n)] → (fun w' => w'.cell? ⟨b0, 0, none⟩ = some (.slice aT T.length cT) ∧ w'.cell? ⟨b0, 1, none⟩ = some (.slice aO O.length cO) ∧ w'.cell? ⟨b0, 2, none⟩ = some (.slice aP P.length cP) ∧ w'.cell? ⟨b1, 0, none⟩ = some (.int .i64 now) ∧ w'.cell? ⟨b2, 0, none⟩ = some (.int .i64 leaf) ∧ w'.cell? ⟨b3, 0, none⟩ = some (.int .i64 n)) W) := fun W h => (by have ⟨⟨_, e0⟩, ⟨_, e1⟩, ⟨_, e2⟩, ⟨_, e3⟩, ⟨_, e4⟩, ⟨_, e5⟩, _⟩ := h; exact ⟨e0, e1, e2, e3, e4, e5⟩)
  have HC : Hid (∀ W, Below w.heap.size w W → Cells W [(b0, 0, .slice aT T.length cT), (b0, 1, .slice aO O.length cO), (b0, 2, .slice aP P.length cP), (b1, 0, .int .i64 now), (b2, 0, .int .i64 leaf), (b3, 0, .int .i64 n)]) := fun W h => Cells.next h hc
  have hw0 : Below w.heap.size w w.drew := (Below.refl _ _).drew
  clear hc
  clear ht hd htm
  go_enter Try.func96, Try.ntmps96
  refine region_late (S := fun w' => w'.cell? ⟨b0, 0, none⟩ = some (.slice aT T.length cT) ∧ w'.cell? ⟨b0, 1, none⟩ = some (.slice aO O.length cO) ∧ w'.cell? ⟨b0, 2, none⟩ = some (.slice aP P.length cP) ∧ w'.cell? ⟨b1, 0, none⟩ = some (.int .i64 now) ∧ w'.cell? ⟨b2, 0, none⟩ = some (.int .i64 leaf) ∧ w'.cell? ⟨b3, 0, none⟩ = some (.int .i64 n)) 12 (by kernel_rfl) (HS.out _ (HC.out _ (Below.refl _ _).drew)) (fun hS => ?_)
  refine late_take (i := 0) (v := ?_) rfl (by kernel_rfl) (by kernel_rfl) (by kernel_rfl) (by kernel_rfl) (fun _ _ _ h => h) (Or.inl ⟨by rfl, ?_⟩) (by assumption) ?_
  rotate_left 1
  · (intro w' hSw; (try dsimp only at hSw); go_simp; try with_reducible rfl)
  try simp only [Act.put, List.setIfInBounds_toArray, List.set_cons_zero, List.set_cons_succ, List.getElem_toArray, List.getElem_cons_succ, List.getElem_cons_zero]
  refine late_take (i := 1) (v := ?_) rfl (by kernel_rfl) (by kernel_rfl) (by kernel_rfl) (by kernel_rfl) (fun _ _ _ h => h) (Or.inl ⟨by rfl, ?_⟩) (by assumption) ?_
  rotate_left 1
  · (intro w' hSw; (try dsimp only at hSw); go_simp; try with_reducible rfl)
  try simp only [Act.put, List.setIfInBounds_toArray, List.set_cons_zero, List.set_cons_succ, List.getElem_toArray, List.getElem_cons_succ, List.getElem_cons_zero]
  refine late_take (i := 2) (v := ?_) rfl (by kernel_rfl) (by kernel_rfl) (by kernel_rfl) (by kernel_rfl) (fun _ _ _ h => h) (Or.inl ⟨by rfl, ?_⟩) (by assumption) ?_
  rotate_left 1
  · (intro w' hSw; (try dsimp only at hSw); go_simp; try with_reducible rfl)
  try simp only [Act.put, List.setIfInBounds_toArray, List.set_cons_zero, List.set_cons_succ, List.getElem_toArray, List.getElem_cons_succ, List.getElem_cons_zero]
  refine late_take (i := 3) (v := ?_) rfl (by kernel_rfl) (by kernel_rfl) (by kernel_rfl) (by kernel_rfl) (fun _ _ _ h => h) (Or.inl ⟨by rfl, ?_⟩) (by assumption) ?_
  rotate_left 1
  · (intro w' hSw; (try dsimp only at hSw); go_simp; try with_reducible rfl)
  try simp only [Act.put, List.setIfInBounds_toArray, List.set_cons_zero, List.set_cons_succ, List.getElem_toArray, List.getElem_cons_succ, List.getElem_cons_zero]
  refine late_take (i := 5) (v := ?_) rfl (by kernel_rfl) (by kernel_rfl) (by kernel_rfl) (by kernel_rfl) (fun _ _ _ h => h) (Or.inl ⟨by rfl, ?_⟩) (by assumption) ?_
  rotate_left 1
  · (intro w' hSw; (try dsimp only at hSw); go_simp; try with_reducible rfl)
  try simp only [Act.put, List.setIfInBounds_toArray, List.set_cons_zero, List.set_cons_succ, List.getElem_toArray, List.getElem_cons_succ, List.getElem_cons_zero]
  refine late_take (i := 6) (v := ?_) rfl (by kernel_rfl) (by kernel_rfl) (by kernel_rfl) (by kernel_rfl) (fun _ _ _ h => h) (Or.inl ⟨by rfl, ?_⟩) (by assumption) ?_
  rotate_left 1
  · (intro w' hSw; (try dsimp only at hSw); go_simp; try with_reducible rfl)
  try simp only [Act.put, List.setIfInBounds_toArray, List.set_cons_zero, List.set_cons_succ, List.getElem_toArray, List.getElem_cons_succ, List.getElem_cons_zero]
  refine late_one (i := 4) (by kernel_rfl) rfl (fun K hK => ?_)
  go_simp
  (refine (movedTo_yes cT cO cP cT now (hT.here hw0) (hO.here hw0) (hP.here hw0) (hT.here hw0) hm).mono ?_; rintro e w2 ⟨a1, n1, c1, a2, n2, c2, a3, n3, c3, rfl, hl, hb2⟩; have hb2 := undrew hb2; have hS2 := HS.out _ (HC.out _ hb2); obtain ⟨gT, gO, gP, d1, d2, d3, e1, e2, e3, rr, g1, g2, g3, ft, fo, fp, k1, k2, k3⟩ := lv_rows hl hpos (movO_length lO.out) (movP_length lP.out); cases e1; cases e2; cases e3; clear hl; simp only [])
  refine hK.out _ _ (by assumption) (fun _ => ?_)
  try simp only [Act.put, List.setIfInBounds_toArray, List.set_cons_zero, List.set_cons_succ, List.getElem_toArray, List.getElem_cons_succ, List.getElem_cons_zero]
  refine late_one (i := 7) (by kernel_rfl) rfl (fun K hK => ?_)
  go_simp
  (refine (spent_yes leaf n lender rr ft fo fp (movO_length lO.out) (movP_length lP.out) vO vP hh hlf hsg hwho hle).mono ?_; rintro e w3 ⟨rfl, ft3, fo3, fp3, on3⟩; have hb3 : Below w.heap.size w w3 := below_rows hb2 on3 g2 g3; have C3 : Hid (Cells w3 [(b0, 0, .slice aT T.length cT), (b0, 1, .slice aO O.length cO), (b0, 2, .slice aP P.length cP), (b1, 0, .int .i64 now), (b2, 0, .int .i64 leaf), (b3, 0, .int .i64 n)]) := HC.out _ hb3; have hS3 := HS.out _ C3.out; have zs3 := hb3.size; have v0 := (below_cells hb3 _ _ zv).trans kv0; have v1 := (below_cells hb3 _ _ zv).trans kv1; have v2 := (below_cells hb3 _ _ zv).trans kv2; have vf : ∀ o : Nat, w3.frozen? ⟨bl, o, none⟩ = false := fun o => (below_frozens hb3 _ _ zv).trans (hz o); have vs := (below_cells hb3 _ _ zs).trans ks; have vsf := (below_frozens hb3 _ _ zs).trans hzs; simp only [])
  refine hK.out _ _ (by assumption) (fun _ => ?_)
  try simp only [Act.put, List.setIfInBounds_toArray, List.set_cons_zero, List.set_cons_succ, List.getElem_toArray, List.getElem_cons_succ, List.getElem_cons_zero]
  refine late_take (i := 8) (v := ?_) rfl (by kernel_rfl) (by kernel_rfl) (by kernel_rfl) (by kernel_rfl) (fun _ _ _ h => h) (Or.inl ⟨by rfl, ?_⟩) (by assumption) ?_
  rotate_left 1
  · (intro w' hSw; (try dsimp only at hSw); go_simp; try with_reducible rfl)
  try simp only [Act.put, List.setIfInBounds_toArray, List.set_cons_zero, List.set_cons_succ, List.getElem_toArray, List.getElem_cons_succ, List.getElem_cons_zero]
  refine late_take (i := 9) (v := ?_) rfl (by kernel_rfl) (by kernel_rfl) (by kernel_rfl) (by kernel_rfl) (fun _ _ _ h => h) (Or.inl ⟨by rfl, ?_⟩) (by assumption) ?_
  rotate_left 1
  · (intro w' hSw; (try dsimp only at hSw); go_simp; try with_reducible rfl)
  try simp only [Act.put, List.setIfInBounds_toArray, List.set_cons_zero, List.set_cons_succ, List.getElem_toArray, List.getElem_cons_succ, List.getElem_cons_zero]
  refine late_take (i := 10) (v := ?_) rfl (by kernel_rfl) (by kernel_rfl) (by kernel_rfl) (by kernel_rfl) (fun _ _ _ h => h) (Or.inl ⟨by rfl, ?_⟩) (by assumption) ?_
  rotate_left 1
  · (intro w' hSw; (try dsimp only at hSw); go_simp; try with_reducible rfl)
  try simp only [Act.put, List.setIfInBounds_toArray, List.set_cons_zero, List.set_cons_succ, List.getElem_toArray, List.getElem_cons_succ, List.getElem_cons_zero]
  refine late_one (i := 11) (by kernel_rfl) rfl (fun K hK => ?_)
  go_simp
  have HP : Hid (InVar bl w.heap.size T (payL n (movO T O now) (pathOf T lender)) (payL n (movP T P now) (pathOf T leaf)) (((w3.setCell ⟨bl, 0, none⟩ (.slice (some ⟨gT, 0, none⟩) T.length c1)).setCell ⟨bl, 1, none⟩ (.slice (some ⟨gO, 0, none⟩) (payL n (movO T O now) (pathOf T lender)).length c2)).setCell ⟨bl, 2, none⟩ (.slice (some ⟨gP, 0, none⟩) (payL n (movP T P now) (pathOf T leaf)).length c3)) ∧ OnlyP (fun k => k = bl) w (((w3.setCell ⟨bl, 0, none⟩ (.slice (some ⟨gT, 0, none⟩) T.length c1)).setCell ⟨bl, 1, none⟩ (.slice (some ⟨gO, 0, none⟩) (payL n (movO T O now) (pathOf T lender)).length c2)).setCell ⟨bl, 2, none⟩ (.slice (some ⟨gP, 0, none⟩) (payL n (movP T P now) (pathOf T leaf)).length c3))) := var_put (lv_of ft3 fo3 fp3 rr on3 g1 g2 g3 rfl rfl k1 (by rw [payL_length]; exact k2) (by rw [payL_length]; exact k3)) hb3 zv v0 v1 v2
  have hS4 := HS.out _ (cells_put3 C3.out hnb (.slice (some ⟨gT, 0, none⟩) T.length c1) (.slice (some ⟨gO, 0, none⟩) (payL n (movO T O now) (pathOf T lender)).length c2) (.slice (some ⟨gP, 0, none⟩) (payL n (movP T P now) (pathOf T leaf)).length c3))
  obtain ⟨v9, hv9⟩ : ∃ v, ((w3.setCell ⟨bl, 0, none⟩ (.slice (some ⟨gT, 0, none⟩) T.length c1)).setCell ⟨bl, 1, none⟩ (.slice (some ⟨gO, 0, none⟩) (payL n (movO T O now) (pathOf T lender)).length c2)).setCell ⟨bl, 2, none⟩ (.slice (some ⟨gP, 0, none⟩) (payL n (movP T P now) (pathOf T leaf)).length c3) = v := ⟨_, rfl⟩
  have vs9 : v9.cell? ⟨bs, 0, none⟩ = some us := (by rw [← hv9]; exact (set_far nbs).trans ((set_far nbs).trans ((set_far nbs).trans vs)))
  have vsf9 : v9.frozen? ⟨bs, 0, none⟩ = false := (by rw [← hv9]; simpa using vsf)
  rw [hv9] at HP hS4 ⊢
  refine hK.out _ _ (by assumption) (fun _ => ?_)
  try simp only [Act.put, List.setIfInBounds_toArray, List.set_cons_zero, List.set_cons_succ, List.getElem_toArray, List.getElem_cons_succ, List.getElem_cons_zero]
  refine late_last (by kernel_rfl) rfl (by kernel_rfl) (fun K hK => ?_)
  go_simp
  refine hK.out _ _ ?_
  try simp only [Act.put, List.setIfInBounds_toArray, List.set_cons_zero, List.set_cons_succ, List.getElem_toArray, List.getElem_cons_succ, List.getElem_cons_zero]
  go_wp2
  go_end0
  have hp := HP.out
  refine ⟨rfl, ⟨?_, World.cell?_setCell_same' _ _ _ (by rw [vs9]; rfl)⟩, ?_⟩
  · exact hp.1.set zs (fun e => nbs e.symm) _
  · refine ⟨hp.2.os, hp.2.tape, hp.2.output, by simpa using hp.2.size, fun k hk hn => ?_⟩
    rw [Below.heap_setCell _ _ _ _ (by simp only; omega)]
    exact hp.2.block k hk (by omega)
/-- What the face keeps. -/
theorem spend_math {T O P : List Q4} {leaf now n : Int} (ht : toldB T O P leaf now n = true) :
    (lendAns (movO T O now) (movP T P now) n (pathOf T leaf) = -1 ∧ spendO T O P leaf now n = movO T O now ∧ spendP T O P leaf now n = movP T P now ∧ spendF T O P leaf now n = false) ∨
    (∃ lender, lendAns (movO T O now) (movP T P now) n (pathOf T leaf) = lender ∧ hasB T lender = true ∧ spendO T O P leaf now n = payL n (movO T O now) (pathOf T lender) ∧ spendP T O P leaf now n = payL n (movP T P now) (pathOf T leaf) ∧ spendF T O P leaf now n = true) := by
  have td := told_of ht
  have hd := td.lend
  have hw := hd.tree.sound.well
  obtain ⟨hm, hh, hlf, hsg⟩ := told_parts ht
  have h0 := path_nat hh
  have i1 := td.l1
  have hnd := path_nodup hw T.length leaf i1 (by omega)
  rw [mov_fillsO hd td.isTime, mov_fillsP hd td.isTime]
  have hA := ask_lend ht h0
  have hr := who_range T O P leaf now n
  unfold spendO spendP spendF
  rw [ht, if_pos rfl, if_pos rfl]
  rcases hr with hw1 | ⟨k0, k1⟩
  · left
    rw [hw1]
    refine ⟨?_, rfl, rfl, rfl⟩
    rw [← hA]
    exact ask_no ht hw1
  · right
    obtain ⟨k, hk⟩ : ∃ k : Nat, whoOf T O P leaf now n = k := ⟨(whoOf T O P leaf now n).toNat, by omega⟩
    have hkl : k < (pathOf T leaf).length := by omega
    have hmem := path_mem hw T.length leaf i1 (by omega) _ (List.getElem_mem hkl)
    refine ⟨(pathOf T leaf)[k], ?_, ?_, ?_, ?_, ?_⟩
    · rw [← hA]
      exact ask_yes ht hk hkl
    · unfold hasB
      rw [decide_eq_true hd.code, decide_eq_true hmem.1, decide_eq_true (by omega)]
      rfl
    · rw [if_neg (by omega), hk, pay_own k _ (Nat.le_refl _), List.take_length, path_drop hw T.length leaf i1 (by omega) k hkl]
    · rw [if_neg (by omega)]
      have hto : ∃ who, askTo (fills now O) (fills now P) n (pathOf T leaf) (pathOf T leaf).length = some who := by
        cases ha : askTo (fills now O) (fills now P) n (pathOf T leaf) (pathOf T leaf).length with
        | some who => exact ⟨who, rfl⟩
        | none =>
          have e : whoOf T O P leaf now n = -1 := by unfold whoOf askOf; rw [ha]
          omega
      obtain ⟨who, hto⟩ := hto
      have hp := pay_top (n := n) (P := fills now P) h0 hnd (fun i h => ask_all hto i h h) _ (Nat.le_refl _)
      rw [List.take_length] at hp
      exact hp.symm
    · rw [decide_eq_true k0]
      rfl
theorem mov_levels {T O P : List Q4} {now : Int} (hd : IsLend T O P) (hn : timeB now = true) : LvlIn 0 1000000000000000000 (movO T O now) ∧ LvlIn 0 1000000000000000000 (movP T P now) := by
  have lO := hd.lo
  have lP := hd.lp
  rw [mov_fillsO hd hn, mov_fillsP hd hn]
  refine ⟨fun i h => ?_, fun i h => ?_⟩
  · have hi : i < O.length := by rw [fills_length] at h; exact h
    have hb := bok_num (fill_good (pair_ok (hd.pair i (by omega) hi (by omega))).oka hn)
    rw [fills_at hi h]
    have := hb.2.1
    have := hb.2.2.1
    omega
  · have hi : i < P.length := by rw [fills_length] at h; exact h
    have hb := bok_num (fill_good (pair_ok (hd.pair i (by omega) (by omega) hi)).okb hn)
    rw [fills_at hi h]
    have := hb.2.1
    have := hb.2.2.1
    omega
/-- The face, whatever its work was. -/
theorem spend_face {w : World} {aT aO aP : Option Addr} (cT cO cP : Nat) {T O P : List Q4} (leaf now n : Int) {T' O' P' : List Q4} {f : Bool}
    (hk : Calls Try.prog 96 #[.pointer (some ⟨w.heap.size, 0, none⟩), .pointer (some ⟨w.heap.size + 2, 0, none⟩), .pointer (some ⟨w.heap.size + 1, 0, none⟩), .pointer (some ⟨w.heap.size + 3, 0, none⟩), .pointer (some ⟨w.heap.size + 5, 0, none⟩), .pointer (some ⟨w.heap.size + 6, 0, none⟩)] ((((((((w.alloc (.cells #[.slice aT T.length cT, .slice aO O.length cO, .slice aP P.length cP] 64)).alloc (.cells #[.int .i64 leaf] 2)).alloc (.cells #[.int .i64 now] 2)).alloc (.cells #[.int .i64 n] 2)).alloc (.cells #[.slice none 0 0, .slice none 0 0, .slice none 0 0] 64)).alloc (.cells #[.slice none 0 0, .slice none 0 0, .slice none 0 0] 64)).alloc (.cells #[.bool false] 4)).alloc (.cells #[.bool false] 4)) fun e W => e = .returned (.tuple #[]) ∧ (InVar (w.heap.size + 5) ((((((((w.alloc (.cells #[.slice aT T.length cT, .slice aO O.length cO, .slice aP P.length cP] 64)).alloc (.cells #[.int .i64 leaf] 2)).alloc (.cells #[.int .i64 now] 2)).alloc (.cells #[.int .i64 n] 2)).alloc (.cells #[.slice none 0 0, .slice none 0 0, .slice none 0 0] 64)).alloc (.cells #[.slice none 0 0, .slice none 0 0, .slice none 0 0] 64)).alloc (.cells #[.bool false] 4)).alloc (.cells #[.bool false] 4)).heap.size T' O' P' W ∧ W.cell? ⟨w.heap.size + 6, 0, none⟩ = some (.bool f)) ∧ OnlyP (fun k => k = w.heap.size + 5 ∨ k = w.heap.size + 6) ((((((((w.alloc (.cells #[.slice aT T.length cT, .slice aO O.length cO, .slice aP P.length cP] 64)).alloc (.cells #[.int .i64 leaf] 2)).alloc (.cells #[.int .i64 now] 2)).alloc (.cells #[.int .i64 n] 2)).alloc (.cells #[.slice none 0 0, .slice none 0 0, .slice none 0 0] 64)).alloc (.cells #[.slice none 0 0, .slice none 0 0, .slice none 0 0] 64)).alloc (.cells #[.bool false] 4)).alloc (.cells #[.bool false] 4)) W) :
    Calls Try.prog 44 #[lendV aT T.length cT aO O.length cO aP P.length cP, .int .i64 leaf, .int .i64 now, .int .i64 n] w (NewPost w T' O' P' f) := by
  have hmf : ∀ (fn : Fn) (first cap : Array Value) (w : World), (Instr.makeFunc fn first cap).run Try.prog w = .ok (.func fn first cap) w := fun _ _ _ _ => rfl
  have hent : ∀ args w, (callFunc 96 args).run Try.prog w = .ok (.enter 96 args) w := enters_of Try.func96 (by kernel_rfl) rfl
  have hb7 : Below w.heap.size w (((((((w.alloc (.cells #[.slice aT T.length cT, .slice aO O.length cO, .slice aP P.length cP] 64)).alloc (.cells #[.int .i64 leaf] 2)).alloc (.cells #[.int .i64 now] 2)).alloc (.cells #[.int .i64 n] 2)).alloc (.cells #[.slice none 0 0, .slice none 0 0, .slice none 0 0] 64)).alloc (.cells #[.slice none 0 0, .slice none 0 0, .slice none 0 0] 64)).alloc (.cells #[.bool false] 4)) := by go_grown
  have s7 : (((((((w.alloc (.cells #[.slice aT T.length cT, .slice aO O.length cO, .slice aP P.length cP] 64)).alloc (.cells #[.int .i64 leaf] 2)).alloc (.cells #[.int .i64 now] 2)).alloc (.cells #[.int .i64 n] 2)).alloc (.cells #[.slice none 0 0, .slice none 0 0, .slice none 0 0] 64)).alloc (.cells #[.slice none 0 0, .slice none 0 0, .slice none 0 0] 64)).alloc (.cells #[.bool false] 4)).heap.size = w.heap.size + 7 := by simp
  have C7 : Hid (Cells (((((((w.alloc (.cells #[.slice aT T.length cT, .slice aO O.length cO, .slice aP P.length cP] 64)).alloc (.cells #[.int .i64 leaf] 2)).alloc (.cells #[.int .i64 now] 2)).alloc (.cells #[.int .i64 n] 2)).alloc (.cells #[.slice none 0 0, .slice none 0 0, .slice none 0 0] 64)).alloc (.cells #[.slice none 0 0, .slice none 0 0, .slice none 0 0] 64)).alloc (.cells #[.bool false] 4)) [(w.heap.size + 4, 0, .slice none 0 0), (w.heap.size + 4, 1, .slice none 0 0), (w.heap.size + 4, 2, .slice none 0 0)]) := ⟨⟨by simp <;> omega, by go_simp⟩, ⟨by simp <;> omega, by go_simp⟩, ⟨by simp <;> omega, by go_simp⟩, trivial⟩
  have F7 : Hid (∀ o : Nat, (((((((w.alloc (.cells #[.slice aT T.length cT, .slice aO O.length cO, .slice aP P.length cP] 64)).alloc (.cells #[.int .i64 leaf] 2)).alloc (.cells #[.int .i64 now] 2)).alloc (.cells #[.int .i64 n] 2)).alloc (.cells #[.slice none 0 0, .slice none 0 0, .slice none 0 0] 64)).alloc (.cells #[.slice none 0 0, .slice none 0 0, .slice none 0 0] 64)).alloc (.cells #[.bool false] 4)).frozen? ⟨w.heap.size + 4, o, none⟩ = false) := fun o => by go_simp
  have ha := att_on _ hent (p := fun k => k = w.heap.size + 5 ∨ k = w.heap.size + 6) (R := fun W => InVar (w.heap.size + 5) ((((((((w.alloc (.cells #[.slice aT T.length cT, .slice aO O.length cO, .slice aP P.length cP] 64)).alloc (.cells #[.int .i64 leaf] 2)).alloc (.cells #[.int .i64 now] 2)).alloc (.cells #[.int .i64 n] 2)).alloc (.cells #[.slice none 0 0, .slice none 0 0, .slice none 0 0] 64)).alloc (.cells #[.slice none 0 0, .slice none 0 0, .slice none 0 0] 64)).alloc (.cells #[.bool false] 4)).alloc (.cells #[.bool false] 4)).heap.size T' O' P' W ∧ W.cell? ⟨w.heap.size + 6, 0, none⟩ = some (.bool f)) (by rw [s7]; omega) (fun W v h => ⟨h.1.set (by simp) (by rw [s7]; omega) v, (set_far (show (((((((w.alloc (.cells #[.slice aT T.length cT, .slice aO O.length cO, .slice aP P.length cP] 64)).alloc (.cells #[.int .i64 leaf] 2)).alloc (.cells #[.int .i64 now] 2)).alloc (.cells #[.int .i64 n] 2)).alloc (.cells #[.slice none 0 0, .slice none 0 0, .slice none 0 0] 64)).alloc (.cells #[.slice none 0 0, .slice none 0 0, .slice none 0 0] 64)).alloc (.cells #[.bool false] 4)).heap.size ≠ w.heap.size + 6 by rw [s7]; omega)).trans h.2⟩) hk
  clear hk hent
  go_enter Try.func44, Try.ntmps44
  go_upto_region 4 with (go_at_call 95; refine ha.mono ?_; clear ha; rintro e w2 ⟨rfl, ⟨⟨a1, n1, c1, a2, n2, c2, a3, n3, c3, ⟨⟨_, j0⟩, ⟨_, j1⟩, ⟨_, j2⟩, _⟩, hl⟩, hs⟩, ho⟩)
  have i0 := (ho.cell (a := ⟨w.heap.size + 4, 0, none⟩) (by rw [s7]; simp only; omega) (by simp only; omega)).trans C7.out.1.2
  have i1 := (ho.cell (a := ⟨w.heap.size + 4, 1, none⟩) (by rw [s7]; simp only; omega) (by simp only; omega)).trans C7.out.2.1.2
  have i2 := (ho.cell (a := ⟨w.heap.size + 4, 2, none⟩) (by rw [s7]; simp only; omega) (by simp only; omega)).trans C7.out.2.2.1.2
  have jf : ∀ o : Nat, w2.frozen? ⟨w.heap.size + 4, o, none⟩ = false := fun o => (ho.frozen (a := ⟨w.heap.size + 4, o, none⟩) (by rw [s7]; simp only; omega) (by simp only; omega)).trans (F7.out o)
  have hbw : Below w.heap.size w w2 := hb7.trans (ho.below (fun k e => by omega) hb7.size)
  have HL : Hid (LV w2 (w.heap.size + 5) (.slice a1 n1 c1) (.slice a2 n2 c2) (.slice a3 n3 c3) T' O' P') := hl.lower (by rw [World.size_alloc, s7]; omega)
  clear hl ho hb7
  go_region
  all_goals go_wp2
  all_goals refine bodyPost_ret (results_two rfl _ _ _ [.slice a1 n1 c1, .slice a2 n2 c2, .slice a3 n3 c3] rfl (set_three (u0 := .slice none 0 0) (u1 := .slice none 0 0) (u2 := .slice none 0 0) _ _ _ ?_ ?_ ?_) Try.underlying64 rfl (by kernel_rfl)) rfl ?_
  all_goals first
    | exact i0
    | exact i1
    | exact i2
    | skip
  have h5 : w.heap.size + 1 + 1 + 1 + 1 < w.heap.size + 5 := by omega
  have hl5 : w.heap.size ≤ w.heap.size + 5 := by omega
  have hle4 : w.heap.size ≤ w.heap.size + 1 + 1 + 1 + 1 := by omega
  first
    | exact ⟨_, _, _, _, _, _, _, _, _, rfl, (((HL.out.set h5 _ _).set h5 _ _).set h5 _ _).lower hl5, ((hbw.setCell hle4 _).setCell hle4 _).setCell hle4 _⟩
    | exact ⟨_, _, _, _, _, _, _, _, _, rfl, ((((HL.out.next (Below.refl _ _).drew).set h5 _ _).set h5 _ _).set h5 _ _).lower hl5, ((hbw.drew.setCell hle4 _).setCell hle4 _).setCell hle4 _⟩
set_option maxHeartbeats 4000000 in
theorem iSpend_any {w : World} {aT aO aP : Option Addr} (cT cO cP : Nat) {T O P : List Q4} (leaf now n : Int) (hT : Quad w.heap.size w aT T) (hO : Quad w.heap.size w aO O) (hP : Quad w.heap.size w aP P) :
    Calls Try.prog 44 #[lendV aT T.length cT aO O.length cO aP P.length cP, .int .i64 leaf, .int .i64 now, .int .i64 n] w (NewPost w (spendT T O P leaf now n) (spendO T O P leaf now n) (spendP T O P leaf now n) (spendF T O P leaf now n)) := by
  have hb7 : Below w.heap.size w (((((((w.alloc (.cells #[.slice aT T.length cT, .slice aO O.length cO, .slice aP P.length cP] 64)).alloc (.cells #[.int .i64 leaf] 2)).alloc (.cells #[.int .i64 now] 2)).alloc (.cells #[.int .i64 n] 2)).alloc (.cells #[.slice none 0 0, .slice none 0 0, .slice none 0 0] 64)).alloc (.cells #[.slice none 0 0, .slice none 0 0, .slice none 0 0] 64)).alloc (.cells #[.bool false] 4)) := by go_grown
  have s7 : (((((((w.alloc (.cells #[.slice aT T.length cT, .slice aO O.length cO, .slice aP P.length cP] 64)).alloc (.cells #[.int .i64 leaf] 2)).alloc (.cells #[.int .i64 now] 2)).alloc (.cells #[.int .i64 n] 2)).alloc (.cells #[.slice none 0 0, .slice none 0 0, .slice none 0 0] 64)).alloc (.cells #[.slice none 0 0, .slice none 0 0, .slice none 0 0] 64)).alloc (.cells #[.bool false] 4)).heap.size = w.heap.size + 7 := by simp
  have c7 : Cells (((((((w.alloc (.cells #[.slice aT T.length cT, .slice aO O.length cO, .slice aP P.length cP] 64)).alloc (.cells #[.int .i64 leaf] 2)).alloc (.cells #[.int .i64 now] 2)).alloc (.cells #[.int .i64 n] 2)).alloc (.cells #[.slice none 0 0, .slice none 0 0, .slice none 0 0] 64)).alloc (.cells #[.slice none 0 0, .slice none 0 0, .slice none 0 0] 64)).alloc (.cells #[.bool false] 4)) [(w.heap.size, 0, .slice aT T.length cT), (w.heap.size, 1, .slice aO O.length cO), (w.heap.size, 2, .slice aP P.length cP), (w.heap.size + 2, 0, .int .i64 now), (w.heap.size + 1, 0, .int .i64 leaf), (w.heap.size + 3, 0, .int .i64 n), (w.heap.size + 5, 0, .slice none 0 0), (w.heap.size + 5, 1, .slice none 0 0), (w.heap.size + 5, 2, .slice none 0 0), (w.heap.size + 6, 0, .bool false), (w.heap.size + 4, 0, .slice none 0 0), (w.heap.size + 4, 1, .slice none 0 0), (w.heap.size + 4, 2, .slice none 0 0)] :=
    ⟨⟨by simp <;> omega, by go_simp⟩, ⟨by simp <;> omega, by go_simp⟩, ⟨by simp <;> omega, by go_simp⟩, ⟨by simp <;> omega, by go_simp⟩, ⟨by simp <;> omega, by go_simp⟩, ⟨by simp <;> omega, by go_simp⟩, ⟨by simp <;> omega, by go_simp⟩, ⟨by simp <;> omega, by go_simp⟩, ⟨by simp <;> omega, by go_simp⟩, ⟨by simp <;> omega, by go_simp⟩, ⟨by simp <;> omega, by go_simp⟩, ⟨by simp <;> omega, by go_simp⟩, ⟨by simp <;> omega, by go_simp⟩, trivial⟩
  have f5 : ∀ o : Nat, (((((((w.alloc (.cells #[.slice aT T.length cT, .slice aO O.length cO, .slice aP P.length cP] 64)).alloc (.cells #[.int .i64 leaf] 2)).alloc (.cells #[.int .i64 now] 2)).alloc (.cells #[.int .i64 n] 2)).alloc (.cells #[.slice none 0 0, .slice none 0 0, .slice none 0 0] 64)).alloc (.cells #[.slice none 0 0, .slice none 0 0, .slice none 0 0] 64)).alloc (.cells #[.bool false] 4)).frozen? ⟨w.heap.size + 5, o, none⟩ = false := fun o => by go_simp
  have f6 : (((((((w.alloc (.cells #[.slice aT T.length cT, .slice aO O.length cO, .slice aP P.length cP] 64)).alloc (.cells #[.int .i64 leaf] 2)).alloc (.cells #[.int .i64 now] 2)).alloc (.cells #[.int .i64 n] 2)).alloc (.cells #[.slice none 0 0, .slice none 0 0, .slice none 0 0] 64)).alloc (.cells #[.slice none 0 0, .slice none 0 0, .slice none 0 0] 64)).alloc (.cells #[.bool false] 4)).frozen? ⟨w.heap.size + 6, 0, none⟩ = false := by go_simp
  have f4 : ∀ o : Nat, (((((((w.alloc (.cells #[.slice aT T.length cT, .slice aO O.length cO, .slice aP P.length cP] 64)).alloc (.cells #[.int .i64 leaf] 2)).alloc (.cells #[.int .i64 now] 2)).alloc (.cells #[.int .i64 n] 2)).alloc (.cells #[.slice none 0 0, .slice none 0 0, .slice none 0 0] 64)).alloc (.cells #[.slice none 0 0, .slice none 0 0, .slice none 0 0] 64)).alloc (.cells #[.bool false] 4)).frozen? ⟨w.heap.size + 4, o, none⟩ = false := fun o => by go_simp
  have nd := new_below (((((((w.alloc (.cells #[.slice aT T.length cT, .slice aO O.length cO, .slice aP P.length cP] 64)).alloc (.cells #[.int .i64 leaf] 2)).alloc (.cells #[.int .i64 now] 2)).alloc (.cells #[.int .i64 n] 2)).alloc (.cells #[.slice none 0 0, .slice none 0 0, .slice none 0 0] 64)).alloc (.cells #[.slice none 0 0, .slice none 0 0, .slice none 0 0] 64)).alloc (.cells #[.bool false] 4)) (.cells #[.bool false] 4)
  have hb8 : Below w.heap.size w ((((((((w.alloc (.cells #[.slice aT T.length cT, .slice aO O.length cO, .slice aP P.length cP] 64)).alloc (.cells #[.int .i64 leaf] 2)).alloc (.cells #[.int .i64 now] 2)).alloc (.cells #[.int .i64 n] 2)).alloc (.cells #[.slice none 0 0, .slice none 0 0, .slice none 0 0] 64)).alloc (.cells #[.slice none 0 0, .slice none 0 0, .slice none 0 0] 64)).alloc (.cells #[.bool false] 4)).alloc (.cells #[.bool false] 4)) := below_two hb7 nd
  have ⟨x0, x1, x2, x3, x4, x5, x6, x7, x8, x9, x10, x11, x12, _⟩ := Cells.next nd c7
  have f58 : ∀ o : Nat, ((((((((w.alloc (.cells #[.slice aT T.length cT, .slice aO O.length cO, .slice aP P.length cP] 64)).alloc (.cells #[.int .i64 leaf] 2)).alloc (.cells #[.int .i64 now] 2)).alloc (.cells #[.int .i64 n] 2)).alloc (.cells #[.slice none 0 0, .slice none 0 0, .slice none 0 0] 64)).alloc (.cells #[.slice none 0 0, .slice none 0 0, .slice none 0 0] 64)).alloc (.cells #[.bool false] 4)).alloc (.cells #[.bool false] 4)).frozen? ⟨w.heap.size + 5, o, none⟩ = false := fun o => (below_frozens nd _ _ (by rw [s7]; omega)).trans (f5 o)
  have f68 : ((((((((w.alloc (.cells #[.slice aT T.length cT, .slice aO O.length cO, .slice aP P.length cP] 64)).alloc (.cells #[.int .i64 leaf] 2)).alloc (.cells #[.int .i64 now] 2)).alloc (.cells #[.int .i64 n] 2)).alloc (.cells #[.slice none 0 0, .slice none 0 0, .slice none 0 0] 64)).alloc (.cells #[.slice none 0 0, .slice none 0 0, .slice none 0 0] 64)).alloc (.cells #[.bool false] 4)).alloc (.cells #[.bool false] 4)).frozen? ⟨w.heap.size + 6, 0, none⟩ = false := (below_frozens nd _ _ (by rw [s7]; omega)).trans f6
  cases ht : toldB T O P leaf now n
  · have e : spendT T O P leaf now n = [] ∧ spendO T O P leaf now n = [] ∧ spendP T O P leaf now n = [] ∧ spendF T O P leaf now n = false := by unfold spendT spendO spendP spendF; rw [ht]; exact ⟨rfl, rfl, rfl, rfl⟩
    rw [e.1, e.2.1, e.2.2.1, e.2.2.2]
    have hmf : ∀ (fn : Fn) (first cap : Array Value) (w : World), (Instr.makeFunc fn first cap).run Try.prog w = .ok (.func fn first cap) w := fun _ _ _ _ => rfl
    have hent : ∀ args w, (callFunc 96 args).run Try.prog w = .ok (.enter 96 args) w := enters_of Try.func96 (by kernel_rfl) rfl
    have hk := att_no _ hent (spend1_no (bl := w.heap.size + 5) (bs := w.heap.size + 6) cT cO cP leaf now n ⟨x0, x1, x2, x3, x4, x5, trivial⟩ (hT.here hb8) (hO.here hb8) (hP.here hb8) ht)
    have C7 : Hid (Cells (((((((w.alloc (.cells #[.slice aT T.length cT, .slice aO O.length cO, .slice aP P.length cP] 64)).alloc (.cells #[.int .i64 leaf] 2)).alloc (.cells #[.int .i64 now] 2)).alloc (.cells #[.int .i64 n] 2)).alloc (.cells #[.slice none 0 0, .slice none 0 0, .slice none 0 0] 64)).alloc (.cells #[.slice none 0 0, .slice none 0 0, .slice none 0 0] 64)).alloc (.cells #[.bool false] 4)) _) := c7
    have F4 : Hid (∀ o : Nat, (((((((w.alloc (.cells #[.slice aT T.length cT, .slice aO O.length cO, .slice aP P.length cP] 64)).alloc (.cells #[.int .i64 leaf] 2)).alloc (.cells #[.int .i64 now] 2)).alloc (.cells #[.int .i64 n] 2)).alloc (.cells #[.slice none 0 0, .slice none 0 0, .slice none 0 0] 64)).alloc (.cells #[.slice none 0 0, .slice none 0 0, .slice none 0 0] 64)).alloc (.cells #[.bool false] 4)).frozen? ⟨w.heap.size + 4, o, none⟩ = false) := f4
    clear c7 hent nd hb8 f5 f6 f58 f68 x0 x1 x2 x3 x4 x5 x6 x7 x8 x9 x10 x11 x12 f4 e
    go_enter Try.func44, Try.ntmps44
    go_upto_region 4 with (go_at_call 95; refine hk.mono ?_; clear hk; rintro e w2 ⟨rfl, hb2⟩)
    have ⟨_, _, _, _, _, _, ⟨_, j0⟩, ⟨_, j1⟩, ⟨_, j2⟩, ⟨_, js⟩, ⟨_, i0⟩, ⟨_, i1⟩, ⟨_, i2⟩, _⟩ := Cells.next hb2 C7.out
    have jf : ∀ o : Nat, w2.frozen? ⟨w.heap.size + 4, o, none⟩ = false := fun o => (below_frozens hb2 _ _ (by rw [s7]; omega)).trans (F4.out o)
    have hbw := below_two hb7 hb2
    clear C7 F4 hb2 hb7
    go_region
    all_goals go_wp2
    all_goals refine bodyPost_ret (results_two rfl _ _ _ [.slice none 0 0, .slice none 0 0, .slice none 0 0] rfl (set_three (u0 := .slice none 0 0) (u1 := .slice none 0 0) (u2 := .slice none 0 0) _ _ _ ?_ ?_ ?_) Try.underlying64 rfl (by kernel_rfl)) rfl ?_
    all_goals first
      | exact i0
      | exact i1
      | exact i2
      | skip
    have hle4 : w.heap.size ≤ w.heap.size + 1 + 1 + 1 + 1 := by omega
    first
      | exact ⟨_, _, _, _, _, _, _, _, _, rfl, LV.zero _ _, ((hbw.setCell hle4 _).setCell hle4 _).setCell hle4 _⟩
      | exact ⟨_, _, _, _, _, _, _, _, _, rfl, LV.zero _ _, ((hbw.drew.setCell hle4 _).setCell hle4 _).setCell hle4 _⟩
  · have eT : spendT T O P leaf now n = T := by unfold spendT; rw [ht]; rfl
    rw [eT]
    rcases spend_math ht with ⟨hwho, eO, eP, eF⟩ | ⟨lender, hwho, hle, eO, eP, eF⟩
    · rw [eO, eP, eF]
      exact spend_face cT cO cP leaf now n (spend1_none cT cO cP leaf now n ⟨x0, x1, x2, x3, x4, x5, trivial⟩ (hT.here hb8) (hO.here hb8) (hP.here hb8) x6.2 x7.2 x8.2 f58 x9.2 f68 (by omega) (by omega) (by omega) (by omega) (by omega) ht hwho)
    · have hv := mov_levels (told_of ht).lend (told_of ht).isTime
      rw [eO, eP, eF]
      exact spend_face cT cO cP leaf now n (spend1_yes cT cO cP leaf now n ⟨x0, x1, x2, x3, x4, x5, trivial⟩ (hT.here hb8) (hO.here hb8) (hP.here hb8) x6.2 x7.2 x8.2 f58 x9.2 f68 (by omega) (by omega) (by omega) (by omega) (by omega) ht hwho hle hv.1 hv.2)
end Go.Proofs.Ytmophpbfaonfmac
