/- What impl.lenderOf answers. -/
import Derived.Test.YtmophpbfaonfmacGrpJ
import Derived.Test.YtmophpbfaonfmacRoundIn
import Derived.Test.YtmophpbfaonfmacImplRight
import Derived.Test.YtmophpbfaonfmacGrpN
import Derived.Sort.CutIn
namespace Go.Proofs.Ytmophpbfaonfmac
open Go.ChangeShapes Go.WideShapes Go.ChangeAt Go.RowKit Go.Shelf
set_option maxRecDepth 100000
set_option linter.unusedVariables false
set_option linter.unusedSimpArgs false
attribute [local go_sem] Oper.semAt_some

theorem iSeg_is {x : Int} {f : Bool} (h : segB x = f) (w : World) : Calls Try.prog 143 #[.int .i64 x] w fun e w' => e = .returned (.bool f) ∧ w' = w := by subst h; exact iseg_any x w
theorem ihas_is {r u l t n : Int} {f : Bool} (hn : 1 ≤ n ∧ n ≤ 1500) (h : decide (1000000000 * n ≤ l) = f) (w : World) : Calls Try.prog 144 #[.agg #[.int .i64 r, .int .i64 u, .int .i64 l, .int .i64 t], .int .i64 n] w fun e w' => e = .returned (.bool f) ∧ Below w.heap.size w w' := by subst h; exact ihas_any r u l t n w hn
theorem keeps_below {W W' : World} (h : Below W.heap.size W W') (B : Nat) : KeepsFrom B W W' := ⟨h.size, fun k o _ hk _ => (h.block k (Array.getElem?_eq_some_iff.1 hk).1).trans hk⟩
theorem box_next {W W' : World} {B : Nat} {t : TypeId} {v : Value} (h : Boxed W B t v) (hb : Below W.heap.size W W') : Boxed W' B t v := (hb.block B h.lt).trans h
set_option maxHeartbeats 4000000 in
theorem lender_no {w : World} {aT aO aP : Option Addr} (cT nO cO nP cP : Nat) {T : List Q4} (leaf n : Int) (hT : Quad w.heap.size w aT T) (hl : T.length ≤ 30) (hoff : ((hasB T leaf && leafB T leaf) && segB n) = false) :
    Calls Try.prog 124 #[lendV aT T.length cT aO nO cO aP nP cP, .int .i64 leaf, .int .i64 n] w fun e w' => e = gaveUp ∧ Below w.heap.size w w' := by
  have hb0 : Below w.heap.size w (((w.alloc (.cells #[.slice aT T.length cT, .slice aO nO cO, .slice aP nP cP] 64)).alloc (.cells #[.int .i64 n] 2)).alloc (.cells #[.int .i64 0] 2)) := by go_grown
  have C0 : Hid (Cells (((w.alloc (.cells #[.slice aT T.length cT, .slice aO nO cO, .slice aP nP cP] 64)).alloc (.cells #[.int .i64 n] 2)).alloc (.cells #[.int .i64 0] 2)) [(w.heap.size, 0, .slice aT T.length cT), (w.heap.size + 1, 0, .int .i64 n)]) := ⟨⟨by simp <;> omega, by go_simp⟩, ⟨by simp <;> omega, by go_simp⟩, trivial⟩
  refine (callsIn_wide (n := 3)).1 ?_
  refine callsIn_of_wp_marks Try.func124 rfl trivial ?_ rfl
  simp only [Try.ntmps124, List.size_toArray, List.length_cons, List.length_nil, Nat.reduceAdd, Nat.reduceSub, Array.replicate_succ, Array.replicate_zero, List.push_toArray, List.append_toArray, List.nil_append, List.cons_append]
  have f1 : Fence.wide.fn 83 := trivial
  have f3 : Fence.wide.fn 91 := trivial
  have f4 : Fence.wide.fn 143 := trivial
  have f5 : Fence.wide.fn 126 := trivial
  cases h1 : hasB T leaf
  · clear hoff
    gi_wp2_with (first
      | (gi_at_call 83; refine (callsIn_wide.2 (iClass_is cT h1 (hT.here hb0))).mono ?_; rintro e w2 ⟨rfl, hb2⟩)
      | (gi_at_call 126; refine (callsIn_wide.2 (insist_off _)).mono ?_; rintro e w5 ⟨rfl, rfl⟩))
    exact ⟨rfl, below_step hb0 hb2⟩
  · cases h2 : leafB T leaf
    · clear hoff
      gi_wp2_with (first
        | (gi_at_call 83; refine (callsIn_wide.2 (iClass_is cT h1 (hT.here hb0))).mono ?_; rintro e w2 ⟨rfl, hb2⟩; have ⟨⟨_, k0⟩, ⟨_, k3⟩, _⟩ := Cells.next hb2 C0.out)
        | (gi_at_call 91; refine (callsIn_wide.2 (iLeaf_is cT h2 (hT.here (below_step hb0 hb2)) hl)).mono ?_; rintro e w3 ⟨rfl, hb3⟩)
        | (gi_at_call 126; refine (callsIn_wide.2 (insist_off _)).mono ?_; rintro e w5 ⟨rfl, rfl⟩))
      exact ⟨rfl, below_step (below_step hb0 hb2) hb3⟩
    · have h3 : segB n = false := by rw [h1, h2] at hoff; exact hoff
      clear hoff
      gi_wp2_with (first
        | (gi_at_call 83; refine (callsIn_wide.2 (iClass_is cT h1 (hT.here hb0))).mono ?_; rintro e w2 ⟨rfl, hb2⟩; have ⟨⟨_, k0⟩, ⟨_, k3⟩, _⟩ := Cells.next hb2 C0.out)
        | (gi_at_call 91; refine (callsIn_wide.2 (iLeaf_is cT h2 (hT.here (below_step hb0 hb2)) hl)).mono ?_; rintro e w3 ⟨rfl, hb3⟩; have ⟨⟨_, j0⟩, ⟨_, j3⟩, _⟩ := Cells.next hb3 (Cells.next hb2 C0.out))
        | (gi_at_call 143; refine (callsIn_wide.2 (iSeg_is h3 _)).mono ?_; rintro e w4 ⟨rfl, h4⟩; have h4 := h4.symm; subst h4)
        | (gi_at_call 126; refine (callsIn_wide.2 (insist_off _)).mono ?_; rintro e w5 ⟨rfl, rfl⟩))
      exact ⟨rfl, below_step (below_step hb0 hb2) hb3⟩
set_option maxHeartbeats 16000000 in
theorem lender_yes {w : World} {aT aO aP : Option Addr} (cT cO cP : Nat) {T O P : List Q4} (leaf n : Int) (hT : Quad w.heap.size w aT T) (hO : Quad w.heap.size w aO O) (hP : Quad w.heap.size w aP P) (lO : O.length = T.length) (lP : P.length = T.length)
    (hh : hasB T leaf = true) (hlf : leafB T leaf = true) (hsg : segB n = true) :
    Calls Try.prog 124 #[lendV aT T.length cT aO O.length cO aP P.length cP, .int .i64 leaf, .int .i64 n] w fun e w' => e = .returned (.int .i64 (lendAns O P n (pathOf T leaf))) ∧ Below w.heap.size w w' := by
  obtain ⟨ht, i0, i1⟩ := has_tree hh
  have hw := ht.sound.well
  have hl := ht.l1
  have h01 := ht.l0
  have HLO : Hid (O.length = T.length) := lO
  have HLP : Hid (P.length = T.length) := lP
  rw [lO, lP]
  clear ht lO lP
  have hsn := seg_num hsg
  obtain ⟨bo, oo, rfl, hbo, -⟩ := hO 0 (by have := HLO.out; omega)
  obtain ⟨bp, op, rfl, hbp, -⟩ := hP 0 (by have := HLP.out; omega)
  have hB3 : Below w.heap.size w (((w.alloc (.cells #[.slice aT T.length cT, .slice (some ⟨bo, oo, none⟩) T.length cO, .slice (some ⟨bp, op, none⟩) T.length cP] 64)).alloc (.cells #[.int .i64 n] 2)).alloc (.cells #[.int .i64 0] 2)) := by go_grown
  have bN : Boxed (((w.alloc (.cells #[.slice aT T.length cT, .slice (some ⟨bo, oo, none⟩) T.length cO, .slice (some ⟨bp, op, none⟩) T.length cP] 64)).alloc (.cells #[.int .i64 n] 2)).alloc (.cells #[.int .i64 0] 2)) (w.heap.size + 1) 2 (.int .i64 n) := (by simpa using Boxed.new (w.alloc (.cells #[.slice aT T.length cT, .slice (some ⟨bo, oo, none⟩) T.length cO, .slice (some ⟨bp, op, none⟩) T.length cP] 64)) 2 (.int .i64 n) : Boxed ((w.alloc (.cells #[.slice aT T.length cT, .slice (some ⟨bo, oo, none⟩) T.length cO, .slice (some ⟨bp, op, none⟩) T.length cP] 64)).alloc (.cells #[.int .i64 n] 2)) (w.heap.size + 1) 2 (.int .i64 n)).alloc _
  have bA : Boxed (((w.alloc (.cells #[.slice aT T.length cT, .slice (some ⟨bo, oo, none⟩) T.length cO, .slice (some ⟨bp, op, none⟩) T.length cP] 64)).alloc (.cells #[.int .i64 n] 2)).alloc (.cells #[.int .i64 0] 2)) (w.heap.size + 1 + 1) 2 (.int .i64 0) := by simpa using Boxed.new ((w.alloc (.cells #[.slice aT T.length cT, .slice (some ⟨bo, oo, none⟩) T.length cO, .slice (some ⟨bp, op, none⟩) T.length cP] 64)).alloc (.cells #[.int .i64 n] 2)) 2 (.int .i64 0)
  have C0 : Hid (Cells (((w.alloc (.cells #[.slice aT T.length cT, .slice (some ⟨bo, oo, none⟩) T.length cO, .slice (some ⟨bp, op, none⟩) T.length cP] 64)).alloc (.cells #[.int .i64 n] 2)).alloc (.cells #[.int .i64 0] 2)) [(w.heap.size, 0, .slice aT T.length cT), (w.heap.size, 1, .slice (some ⟨bo, oo, none⟩) T.length cO), (w.heap.size, 2, .slice (some ⟨bp, op, none⟩) T.length cP), (w.heap.size + 1, 0, .int .i64 n)]) := ⟨⟨by simp <;> omega, by go_simp⟩, ⟨by simp <;> omega, by go_simp⟩, ⟨by simp <;> omega, by go_simp⟩, ⟨by simp <;> omega, by go_simp⟩, trivial⟩
  have s3 : (((w.alloc (.cells #[.slice aT T.length cT, .slice (some ⟨bo, oo, none⟩) T.length cO, .slice (some ⟨bp, op, none⟩) T.length cP] 64)).alloc (.cells #[.int .i64 n] 2)).alloc (.cells #[.int .i64 0] 2)).heap.size = w.heap.size + 3 := by simp
  have BN : Hid (Boxed (((w.alloc (.cells #[.slice aT T.length cT, .slice (some ⟨bo, oo, none⟩) T.length cO, .slice (some ⟨bp, op, none⟩) T.length cP] 64)).alloc (.cells #[.int .i64 n] 2)).alloc (.cells #[.int .i64 0] 2)) (w.heap.size + 1) 2 (.int .i64 n)) := bN
  have BA : Hid (Boxed (((w.alloc (.cells #[.slice aT T.length cT, .slice (some ⟨bo, oo, none⟩) T.length cO, .slice (some ⟨bp, op, none⟩) T.length cP] 64)).alloc (.cells #[.int .i64 n] 2)).alloc (.cells #[.int .i64 0] 2)) (w.heap.size + 1 + 1) 2 (.int .i64 0)) := bA
  clear bN bA
  refine (callsIn_wide (n := 3)).1 ?_
  refine callsIn_of_wp_marks Try.func124 rfl trivial ?_ rfl
  simp only [Try.ntmps124, List.size_toArray, List.length_cons, List.length_nil, Nat.reduceAdd, Nat.reduceSub, Array.replicate_succ, Array.replicate_zero, List.push_toArray, List.append_toArray, List.nil_append, List.cons_append]
  have f1 : Fence.wide.fn 83 := trivial
  have f2 : Fence.wide.fn 84 := trivial
  have f3 : Fence.wide.fn 91 := trivial
  have f4 : Fence.wide.fn 143 := trivial
  have f5 : Fence.wide.fn 126 := trivial
  gi_wp2_with (first
    | (gi_at_call 83; refine (callsIn_wide.2 (iClass_is cT hh (hT.here hB3))).mono ?_; rintro e w2 ⟨rfl, hb2⟩; have ⟨⟨_, k0⟩, ⟨_, k1⟩, ⟨_, k2⟩, ⟨_, k3⟩, _⟩ := Cells.next hb2 C0.out)
    | (gi_at_call 91; refine (callsIn_wide.2 (iLeaf_is cT hlf (hT.here (below_step hB3 hb2)) hl)).mono ?_; rintro e w3 ⟨rfl, hb3⟩; have ⟨⟨z0, j0⟩, ⟨_, j1⟩, ⟨_, j2⟩, ⟨_, j3⟩, _⟩ := Cells.next hb3 (Cells.next hb2 C0.out))
    | (gi_at_call 143; refine (callsIn_wide.2 (iSeg_is hsg _)).mono ?_; rintro e w4 ⟨rfl, h4⟩; have h4 := h4.symm; subst h4)
    | (gi_at_call 126; refine (callsIn_wide.2 (insist_on _)).mono ?_; rintro e w5 ⟨rfl, rfl⟩)
    | (gi_at_call 84; refine (up_in Fence.wide _ trivial rfl aT T.length cT leaf _).mono ?_; rintro e w' ⟨rfl, rfl⟩))
  have hbw3 : Below w.heap.size w w3 := below_step (below_step hB3 hb2) hb3
  have z3 : w.heap.size + 3 ≤ w3.heap.size := by have := hb2.size; have := hb3.size; omega
  have bN := box_next (box_next BN.out hb2) hb3
  have bA := box_next (box_next BA.out hb2) hb3
  have bL := Boxed.new w3 2 (.int .i64 (-1))
  have bT := Boxed.new (w3.alloc (.cells #[.int .i64 (-1)] 2)) 53 (.slice aT T.length cT)
  have bI := Boxed.new ((w3.alloc (.cells #[.int .i64 (-1)] 2)).alloc (.cells #[.slice aT T.length cT] 53)) 2 (.int .i64 leaf)
  simp only [World.size_alloc] at bT bI
  have hB0 : Below w3.heap.size w3 (((w3.alloc (.cells #[.int .i64 (-1)] 2)).alloc (.cells #[.slice aT T.length cT] 53)).alloc (.cells #[.int .i64 leaf] 2)) := (((Below.refl _ w3).alloc (Nat.le_refl _) _).alloc (by simp) _).alloc (by simp <;> omega) _
  have hBw0 : Below w.heap.size w (((w3.alloc (.cells #[.int .i64 (-1)] 2)).alloc (.cells #[.slice aT T.length cT] 53)).alloc (.cells #[.int .i64 leaf] 2)) := below_two hbw3 hB0
  have c1 : (((w3.alloc (.cells #[.int .i64 (-1)] 2)).alloc (.cells #[.slice aT T.length cT] 53)).alloc (.cells #[.int .i64 leaf] 2)).cell? ⟨w.heap.size, 1, none⟩ = some (.slice (some ⟨bo, oo, none⟩) T.length cO) := (below_cells hB0 _ _ (by omega)).trans j1
  have c2 : (((w3.alloc (.cells #[.int .i64 (-1)] 2)).alloc (.cells #[.slice aT T.length cT] 53)).alloc (.cells #[.int .i64 leaf] 2)).cell? ⟨w.heap.size, 2, none⟩ = some (.slice (some ⟨bp, op, none⟩) T.length cP) := (below_cells hB0 _ _ (by omega)).trans j2
  refine wpIn_rangeFunc_ownG rfl (by omega) (gf := 119) (lb := #[.pointer (some ⟨w3.heap.size + 1 + 1, 0, none⟩), .pointer (some ⟨w3.heap.size + 1, 0, none⟩)]) rfl trivial (enters_of Try.func119 (by kernel_rfl) rfl)
    (up2_stops (w := ((w3.alloc (.cells #[.int .i64 (-1)] 2)).alloc (.cells #[.slice aT T.length cT] 53)).alloc (.cells #[.int .i64 leaf] 2)) (w3.heap.size + 1 + 1) (w3.heap.size + 1) w.heap.size aT cT leaf hw hl i0 i1 (Kp := KpT w.heap.size (w3.heap.size + 1) 53) (fun h => ⟨h.2, fun q => q.mono h.1⟩) bI (bT.alloc _) (hT.mono hBw0) (by simp <;> omega)) kpT_t (kpT_b (by simp <;> omega) (by simp <;> omega)) (Below.refl _ _) (fun _ => rfl)
    (fun pre W => (∃ c : Int, Hid (lendL O P n (vals pre) = some c) ∧ Boxed W w3.heap.size 2 (.int .i64 c)) ∧ ((W.cell? ⟨w.heap.size, 1, none⟩ = some (.slice (some ⟨bo, oo, none⟩) T.length cO) ∧ W.cell? ⟨w.heap.size, 2, none⟩ = some (.slice (some ⟨bp, op, none⟩) T.length cP)) ∧ (Boxed W (w.heap.size + 1) 2 (.int .i64 n) ∧ (Boxed W (w.heap.size + 1 + 1) 2 (.int .i64 0) ∧ Below w.heap.size w W))))
    (fun c pre W => (c = .ret ∧ Hid (lendL O P n (vals pre) = none) ∧ Boxed W (w.heap.size + 1 + 1) 2 (.int .i64 (-1))) ∧ Below w.heap.size w W)
    (OwnFrom.and (Own.from (fun s A B row hs hg hr => (by obtain ⟨c, h1, h2⟩ := hs; exact ⟨c, h1, boxed_own w3.heap.size 2 (fun _ : Unit => .int .i64 c) () A B row h2 hg hr⟩)) _) (OwnFrom.and (Own.from (fun s A B row hs hg hr => ⟨cell_kept hs.1 hg hr, cell_kept hs.2 hg hr⟩) _) (OwnFrom.and (Own.from (boxed_own _ _ (fun _ => .int .i64 n)) _) (OwnFrom.and (Own.from (boxed_own _ _ (fun _ => .int .i64 0)) _) (ownFrom_below (Nat.le_refl _) (by simp <;> omega))))))
    (fun c => OwnFrom.and (OwnFrom.and (ownFrom_pure _ (fun _ : List (Idx T.length) => c = .ret)) (OwnFrom.and (ownFrom_pure _ (fun pre : List (Idx T.length) => Hid (lendL O P n (vals pre) = none))) (Own.from (boxed_own _ _ (fun _ => .int .i64 (-1))) _))) (ownFrom_below (Nat.le_refl _) (by simp <;> omega)))
    ⟨⟨-1, rfl, (bL.alloc _).alloc _⟩, ⟨c1, c2⟩, box_next bN hB0, box_next bA hB0, hBw0⟩
    (fun x => { tmps := #[.agg #[.slice aT T.length cT, .slice (some ⟨bo, oo, none⟩) T.length cO, .slice (some ⟨bp, op, none⟩) T.length cP], .int .i64 leaf, .int .i64 n, .pointer (some ⟨w.heap.size, 0, none⟩), undef, .pointer (some ⟨w.heap.size + 1, 0, none⟩), .pointer (some ⟨w.heap.size + 1 + 1, 0, none⟩), .pointer (some ⟨w3.heap.size, 0, none⟩), .int .i64 x.1, .pointer (some ⟨w.heap.size, 0, none⟩), .slice aT T.length cT, .int .i64 leaf, .bool true, .bool true, .pointer (some ⟨w.heap.size, 0, none⟩), .slice aT T.length cT, .int .i64 leaf, .bool true, .bool true, .bool true, .int .i64 n, .bool true, .bool true, .tuple #[], .pointer (some ⟨w.heap.size, 0, none⟩), .slice aT T.length cT, .int .i64 leaf, .func (.func 119) #[] #[.pointer (some ⟨w3.heap.size + 1 + 1, 0, none⟩), .pointer (some ⟨w3.heap.size + 1, 0, none⟩)], .int .i64 x.1, undef, undef, undef, undef, undef, undef, undef, undef, undef, undef, undef, undef, undef, undef, undef, undef, undef, undef, undef, undef, undef], defers := [] }) ?assign ?body ?done ?stop
  case assign =>
    intro l x W K hK
    gi_wp2
    exact hK
  case body =>
    clear c1 c2 bN bA bL bT bI hB0 hBw0 j0 j1 j2 j3 k0 k1 k2 k3 hb2 hb3 BN BA C0
    rintro l pre ⟨xi, hx0, hx1⟩ W ⟨⟨c, HC, hbL⟩, ⟨c1, c2⟩, hbN, hbA, hB⟩ _
    obtain ⟨k, rfl⟩ := Int.eq_ofNat_of_zero_le hx0
    have hkT : k < T.length := by omega
    have hkO : k < O.length := by have := HLO.out; omega
    have hkP : k < P.length := by have := HLP.out; omega
    obtain ⟨⟨q1, q2, q3, q4⟩, hq⟩ : ∃ b, O[k] = b := ⟨_, rfl⟩
    obtain ⟨⟨p1, p2, p3, p4⟩, hp⟩ : ∃ b, P[k] = b := ⟨_, rfl⟩
    have HlO : Hid (levelOf O (k : Int) = q3) := by show levelOf O (k : Int) = q3; rw [levelOf_at hkO, hq]
    have HlP : Hid (levelOf P (k : Int) = p3) := by show levelOf P (k : Int) = p3; rw [levelOf_at hkP, hp]
    have zW : w.heap.size + 3 ≤ W.heap.size := by have := hbL.lt; omega
    have HS5 : Hid (∀ W', Below W.heap.size W W' → W'.cell? ⟨w.heap.size, 2, none⟩ = some (.slice (some ⟨bp, op, none⟩) T.length cP) ∧ W'.cell? ⟨bp, op + k * 4, none⟩ = some (.int .i64 p1) ∧ W'.cell? ⟨bp, op + k * 4 + 1, none⟩ = some (.int .i64 p2) ∧ W'.cell? ⟨bp, op + k * 4 + 2, none⟩ = some (.int .i64 p3) ∧ W'.cell? ⟨bp, op + k * 4 + 3, none⟩ = some (.int .i64 p4) ∧ W'.cell? ⟨w.heap.size + 1, 0, none⟩ = some (.int .i64 n)) := fun W' h => (by have e := hP.cells (below_two hB h) k hkP; rw [hp] at e; exact ⟨(below_cells h _ _ (by omega)).trans c2, e.1, e.2.1, e.2.2.1, e.2.2.2, (below_cells h _ _ (by omega)).trans hbN.cell⟩)
    have HE7 : Hid (∀ W', Below W.heap.size W W' → W'.cell? ⟨w.heap.size, 1, none⟩ = some (.slice (some ⟨bo, oo, none⟩) T.length cO) ∧ W'.cell? ⟨bo, oo + k * 4, none⟩ = some (.int .i64 q1) ∧ W'.cell? ⟨bo, oo + k * 4 + 1, none⟩ = some (.int .i64 q2) ∧ W'.cell? ⟨bo, oo + k * 4 + 2, none⟩ = some (.int .i64 q3) ∧ W'.cell? ⟨bo, oo + k * 4 + 3, none⟩ = some (.int .i64 q4) ∧ W'.cell? ⟨w.heap.size + 1, 0, none⟩ = some (.int .i64 n) ∧ W'.cell? ⟨w3.heap.size, 0, none⟩ = some (.int .i64 c)) := fun W' h => (by have e := hO.cells (below_two hB h) k hkO; rw [hq] at e; exact ⟨(below_cells h _ _ (by omega)).trans c1, e.1, e.2.1, e.2.2.1, e.2.2.2, (below_cells h _ _ (by omega)).trans hbN.cell, (below_cells h _ _ hbL.lt).trans hbL.cell⟩)
    have hlen : (k : Int) < (T.length : Int) := by omega
    have hzL := hbL.lt
    clear hq hp hkO hkP
    gi_upto_region 5 with (fail)
    by_cases hlow : p3 < 1000000000 * n
    · have hlo : decide (1000000000 * n ≤ p3) = false := decide_eq_false (by omega)
      have HN : Hid (lendL O P n (vals (pre ++ [⟨(k : Int), hx0, hx1⟩])) = none) := by
        show lendL O P n _ = none
        rw [vals_snoc, lendL_snoc, HC.out]
        unfold lendStep
        simp only
        rw [if_pos (by rw [HlP.out]; exact hlow)]
      refine held_in (S := fun w' => w'.cell? ⟨w.heap.size, 2, none⟩ = some (.slice (some ⟨bp, op, none⟩) T.length cP) ∧ w'.cell? ⟨bp, op + k * 4, none⟩ = some (.int .i64 p1) ∧ w'.cell? ⟨bp, op + k * 4 + 1, none⟩ = some (.int .i64 p2) ∧ w'.cell? ⟨bp, op + k * 4 + 2, none⟩ = some (.int .i64 p3) ∧ w'.cell? ⟨bp, op + k * 4 + 3, none⟩ = some (.int .i64 p4) ∧ w'.cell? ⟨w.heap.size + 1, 0, none⟩ = some (.int .i64 n)) (by kernel_rfl) (by kernel_rfl) (HS5.out _ (Below.refl _ _).drew) (fun hS => ?_)
      refine wpAnyH_take (i := 0) (v := ?_) rfl (by kernel_rfl) (by kernel_rfl) (by kernel_rfl) (fun _ _ _ h => h) (Or.inl ⟨by rfl, ?_⟩) (by assumption) ?_
      rotate_left 1
      · (intro w' hSw; (try dsimp only at hSw); go_simp; try with_reducible rfl)
      try simp only [Act.put, List.setIfInBounds_toArray, List.set_cons_zero, List.set_cons_succ, List.getElem_toArray, List.getElem_cons_succ, List.getElem_cons_zero]
      refine wpAnyH_take (i := 1) (v := ?_) rfl (by kernel_rfl) (by kernel_rfl) (by kernel_rfl) (fun _ _ _ h => h) (Or.inl ⟨by rfl, ?_⟩) (by assumption) ?_
      rotate_left 1
      · (intro w' hSw; (try dsimp only at hSw); go_simp; try with_reducible rfl)
      try simp only [Act.put, List.setIfInBounds_toArray, List.set_cons_zero, List.set_cons_succ, List.getElem_toArray, List.getElem_cons_succ, List.getElem_cons_zero]
      refine wpAnyH_take (i := 2) (v := ?_) rfl (by kernel_rfl) (by kernel_rfl) (by kernel_rfl) (fun _ _ _ h => h) (Or.inl ⟨by rfl, ?_⟩) (by assumption) ?_
      rotate_left 1
      · (intro w' hSw; (try dsimp only at hSw); go_simp; try with_reducible rfl)
      try simp only [Act.put, List.setIfInBounds_toArray, List.set_cons_zero, List.set_cons_succ, List.getElem_toArray, List.getElem_cons_succ, List.getElem_cons_zero]
      refine wpAnyH_take (i := 3) (v := ?_) rfl (by kernel_rfl) (by kernel_rfl) (by kernel_rfl) (fun _ _ _ h => h) (Or.inl ⟨by rfl, ?_⟩) (by assumption) ?_
      rotate_left 1
      · (intro w' hSw; (try dsimp only at hSw); go_simp; try with_reducible rfl)
      try simp only [Act.put, List.setIfInBounds_toArray, List.set_cons_zero, List.set_cons_succ, List.getElem_toArray, List.getElem_cons_succ, List.getElem_cons_zero]
      refine wpAnyH_take (i := 4) (v := ?_) rfl (by kernel_rfl) (by kernel_rfl) (by kernel_rfl) (fun _ _ _ h => h) (Or.inl ⟨by rfl, ?_⟩) (by assumption) ?_
      rotate_left 1
      · (intro w' hSw; (try dsimp only at hSw); go_simp; try with_reducible rfl)
      try simp only [Act.put, List.setIfInBounds_toArray, List.set_cons_zero, List.set_cons_succ, List.getElem_toArray, List.getElem_cons_succ, List.getElem_cons_zero]
      refine wpAnyH_take (i := 5) (v := ?_) rfl (by kernel_rfl) (by kernel_rfl) (by kernel_rfl) (fun _ _ _ h => h) (Or.inl ⟨by rfl, ?_⟩) (by assumption) ?_
      rotate_left 1
      · (intro w' hSw; (try dsimp only at hSw); go_simp; try with_reducible rfl)
      try simp only [Act.put, List.setIfInBounds_toArray, List.set_cons_zero, List.set_cons_succ, List.getElem_toArray, List.getElem_cons_succ, List.getElem_cons_zero]
      refine wpAnyH_ready (rs := [6]) (by kernel_rfl) (by simp) (AllReadyH.cons rfl (fun K hK => ?_) AllReadyH.nil)
      go_simp
      (refine (ihas_is hsn hlo _).mono ?_; rintro e Wa ⟨rfl, hba⟩; have hba := undrew hba; have hSa := HS5.out _ hba)
      refine hK.out _ _ (by assumption) (fun _ => ?_)
      try simp only [Act.put, List.setIfInBounds_toArray, List.set_cons_zero, List.set_cons_succ, List.getElem_toArray, List.getElem_cons_succ, List.getElem_cons_zero]
      refine wpAnyH_take (i := 7) (v := ?_) rfl (by kernel_rfl) (by kernel_rfl) (by kernel_rfl) (fun _ _ _ h => h) (Or.inl ⟨by rfl, ?_⟩) (by assumption) ?_
      rotate_left 1
      · (intro w' hSw; (try dsimp only at hSw); go_simp; try with_reducible rfl)
      try simp only [Act.put, List.setIfInBounds_toArray, List.set_cons_zero, List.set_cons_succ, List.getElem_toArray, List.getElem_cons_succ, List.getElem_cons_zero]
      refine wpAnyH_done (by kernel_rfl) ?_ _
      refine ⟨by simp, ?_⟩
      have hbA' := box_next hbA hba
      have hcA := hbA'.cell
      have hfA := hbA'.frozen
      gi_wp2
      exact ⟨(keeps_below hba _).trans ((KeepsOthers.setCell _ _ _).from _), ⟨rfl, HN, hbA'.set _⟩, (below_two hB hba).setCell (p := ⟨w.heap.size + 1 + 1, 0, none⟩) (by simp only; omega) _⟩
    · have hlo : decide (1000000000 * n ≤ p3) = true := decide_eq_true (by omega)
      have HN : Hid (lendL O P n (vals (pre ++ [⟨(k : Int), hx0, hx1⟩])) = some (if c = -1 ∧ 1000000000 * n ≤ q3 then (k : Int) else c)) := by
        show lendL O P n _ = _
        rw [vals_snoc, lendL_snoc, HC.out]
        unfold lendStep
        simp only
        rw [if_neg (by rw [HlP.out]; exact hlow), HlO.out]
      refine held_in (S := fun w' => w'.cell? ⟨w.heap.size, 2, none⟩ = some (.slice (some ⟨bp, op, none⟩) T.length cP) ∧ w'.cell? ⟨bp, op + k * 4, none⟩ = some (.int .i64 p1) ∧ w'.cell? ⟨bp, op + k * 4 + 1, none⟩ = some (.int .i64 p2) ∧ w'.cell? ⟨bp, op + k * 4 + 2, none⟩ = some (.int .i64 p3) ∧ w'.cell? ⟨bp, op + k * 4 + 3, none⟩ = some (.int .i64 p4) ∧ w'.cell? ⟨w.heap.size + 1, 0, none⟩ = some (.int .i64 n)) (by kernel_rfl) (by kernel_rfl) (HS5.out _ (Below.refl _ _).drew) (fun hS => ?_)
      refine wpAnyH_take (i := 0) (v := ?_) rfl (by kernel_rfl) (by kernel_rfl) (by kernel_rfl) (fun _ _ _ h => h) (Or.inl ⟨by rfl, ?_⟩) (by assumption) ?_
      rotate_left 1
      · (intro w' hSw; (try dsimp only at hSw); go_simp; try with_reducible rfl)
      try simp only [Act.put, List.setIfInBounds_toArray, List.set_cons_zero, List.set_cons_succ, List.getElem_toArray, List.getElem_cons_succ, List.getElem_cons_zero]
      refine wpAnyH_take (i := 1) (v := ?_) rfl (by kernel_rfl) (by kernel_rfl) (by kernel_rfl) (fun _ _ _ h => h) (Or.inl ⟨by rfl, ?_⟩) (by assumption) ?_
      rotate_left 1
      · (intro w' hSw; (try dsimp only at hSw); go_simp; try with_reducible rfl)
      try simp only [Act.put, List.setIfInBounds_toArray, List.set_cons_zero, List.set_cons_succ, List.getElem_toArray, List.getElem_cons_succ, List.getElem_cons_zero]
      refine wpAnyH_take (i := 2) (v := ?_) rfl (by kernel_rfl) (by kernel_rfl) (by kernel_rfl) (fun _ _ _ h => h) (Or.inl ⟨by rfl, ?_⟩) (by assumption) ?_
      rotate_left 1
      · (intro w' hSw; (try dsimp only at hSw); go_simp; try with_reducible rfl)
      try simp only [Act.put, List.setIfInBounds_toArray, List.set_cons_zero, List.set_cons_succ, List.getElem_toArray, List.getElem_cons_succ, List.getElem_cons_zero]
      refine wpAnyH_take (i := 3) (v := ?_) rfl (by kernel_rfl) (by kernel_rfl) (by kernel_rfl) (fun _ _ _ h => h) (Or.inl ⟨by rfl, ?_⟩) (by assumption) ?_
      rotate_left 1
      · (intro w' hSw; (try dsimp only at hSw); go_simp; try with_reducible rfl)
      try simp only [Act.put, List.setIfInBounds_toArray, List.set_cons_zero, List.set_cons_succ, List.getElem_toArray, List.getElem_cons_succ, List.getElem_cons_zero]
      refine wpAnyH_take (i := 4) (v := ?_) rfl (by kernel_rfl) (by kernel_rfl) (by kernel_rfl) (fun _ _ _ h => h) (Or.inl ⟨by rfl, ?_⟩) (by assumption) ?_
      rotate_left 1
      · (intro w' hSw; (try dsimp only at hSw); go_simp; try with_reducible rfl)
      try simp only [Act.put, List.setIfInBounds_toArray, List.set_cons_zero, List.set_cons_succ, List.getElem_toArray, List.getElem_cons_succ, List.getElem_cons_zero]
      refine wpAnyH_take (i := 5) (v := ?_) rfl (by kernel_rfl) (by kernel_rfl) (by kernel_rfl) (fun _ _ _ h => h) (Or.inl ⟨by rfl, ?_⟩) (by assumption) ?_
      rotate_left 1
      · (intro w' hSw; (try dsimp only at hSw); go_simp; try with_reducible rfl)
      try simp only [Act.put, List.setIfInBounds_toArray, List.set_cons_zero, List.set_cons_succ, List.getElem_toArray, List.getElem_cons_succ, List.getElem_cons_zero]
      refine wpAnyH_ready (rs := [6]) (by kernel_rfl) (by simp) (AllReadyH.cons rfl (fun K hK => ?_) AllReadyH.nil)
      go_simp
      (refine (ihas_is hsn hlo _).mono ?_; rintro e Wa ⟨rfl, hba⟩; have hba := undrew hba; have hSa := HS5.out _ hba)
      refine hK.out _ _ (by assumption) (fun _ => ?_)
      try simp only [Act.put, List.setIfInBounds_toArray, List.set_cons_zero, List.set_cons_succ, List.getElem_toArray, List.getElem_cons_succ, List.getElem_cons_zero]
      refine wpAnyH_take (i := 7) (v := ?_) rfl (by kernel_rfl) (by kernel_rfl) (by kernel_rfl) (fun _ _ _ h => h) (Or.inl ⟨by rfl, ?_⟩) (by assumption) ?_
      rotate_left 1
      · (intro w' hSw; (try dsimp only at hSw); go_simp; try with_reducible rfl)
      try simp only [Act.put, List.setIfInBounds_toArray, List.set_cons_zero, List.set_cons_succ, List.getElem_toArray, List.getElem_cons_succ, List.getElem_cons_zero]
      refine wpAnyH_done (by kernel_rfl) ?_ _
      refine ⟨by simp, ?_⟩
      have HS7 : Hid (∀ W', Below Wa.heap.size Wa W' → W'.cell? ⟨w.heap.size, 1, none⟩ = some (.slice (some ⟨bo, oo, none⟩) T.length cO) ∧ W'.cell? ⟨bo, oo + k * 4, none⟩ = some (.int .i64 q1) ∧ W'.cell? ⟨bo, oo + k * 4 + 1, none⟩ = some (.int .i64 q2) ∧ W'.cell? ⟨bo, oo + k * 4 + 2, none⟩ = some (.int .i64 q3) ∧ W'.cell? ⟨bo, oo + k * 4 + 3, none⟩ = some (.int .i64 q4) ∧ W'.cell? ⟨w.heap.size + 1, 0, none⟩ = some (.int .i64 n) ∧ W'.cell? ⟨w3.heap.size, 0, none⟩ = some (.int .i64 c)) := fun W' h => HE7.out W' (below_two hba h)
      clear HS5 HE7
      have hbLa := box_next hbL hba
      have hBa := below_two hB hba
      have ca1 : Wa.cell? ⟨w.heap.size, 1, none⟩ = some (.slice (some ⟨bo, oo, none⟩) T.length cO) := (below_cells hba _ _ (by omega)).trans c1
      have ca2 : Wa.cell? ⟨w.heap.size, 2, none⟩ = some (.slice (some ⟨bp, op, none⟩) T.length cP) := (below_cells hba _ _ (by omega)).trans c2
      have hbNa := box_next hbN hba
      have hbAa := box_next hbA hba
      gi_upto_region 7 with (fail)
      by_cases hc : c = -1
      · subst hc
        cases hhi : decide (1000000000 * n ≤ q3)
        · have HN2 : Hid (lendL O P n (vals (pre ++ [⟨(k : Int), hx0, hx1⟩])) = some (-1)) := by have h := HN.out; rw [if_neg (fun hk => of_decide_eq_false hhi hk.2)] at h; exact h
          refine held_in (S := fun w' => w'.cell? ⟨w.heap.size, 1, none⟩ = some (.slice (some ⟨bo, oo, none⟩) T.length cO) ∧ w'.cell? ⟨bo, oo + k * 4, none⟩ = some (.int .i64 q1) ∧ w'.cell? ⟨bo, oo + k * 4 + 1, none⟩ = some (.int .i64 q2) ∧ w'.cell? ⟨bo, oo + k * 4 + 2, none⟩ = some (.int .i64 q3) ∧ w'.cell? ⟨bo, oo + k * 4 + 3, none⟩ = some (.int .i64 q4) ∧ w'.cell? ⟨w.heap.size + 1, 0, none⟩ = some (.int .i64 n) ∧ w'.cell? ⟨w3.heap.size, 0, none⟩ = some (.int .i64 (-1))) (by kernel_rfl) (by kernel_rfl) (HS7.out _ (Below.refl _ _).drew) (fun hS => ?_)
          refine wpAnyH_take (i := 0) (v := ?_) rfl (by kernel_rfl) (by kernel_rfl) (by kernel_rfl) (fun _ _ _ h => h) (Or.inl ⟨by rfl, ?_⟩) (by assumption) ?_
          rotate_left 1
          · (intro w' hSw; (try dsimp only at hSw); go_simp; try with_reducible rfl)
          try simp only [Act.put, List.setIfInBounds_toArray, List.set_cons_zero, List.set_cons_succ, List.getElem_toArray, List.getElem_cons_succ, List.getElem_cons_zero]
          refine wpAnyH_take (i := 1) (v := ?_) rfl (by kernel_rfl) (by kernel_rfl) (by kernel_rfl) (fun _ _ _ h => h) (Or.inl ⟨by rfl, ?_⟩) (by assumption) ?_
          rotate_left 1
          · (intro w' hSw; (try dsimp only at hSw); go_simp; try with_reducible rfl)
          try simp only [Act.put, List.setIfInBounds_toArray, List.set_cons_zero, List.set_cons_succ, List.getElem_toArray, List.getElem_cons_succ, List.getElem_cons_zero]
          refine wpAnyH_take (i := 2) (v := ?_) rfl (by kernel_rfl) (by kernel_rfl) (by kernel_rfl) (fun _ _ _ h => h) (Or.inl ⟨by rfl, ?_⟩) (by assumption) ?_
          rotate_left 1
          · (intro w' hSw; (try dsimp only at hSw); go_simp; try with_reducible rfl)
          try simp only [Act.put, List.setIfInBounds_toArray, List.set_cons_zero, List.set_cons_succ, List.getElem_toArray, List.getElem_cons_succ, List.getElem_cons_zero]
          refine wpAnyH_take (i := 3) (v := ?_) rfl (by kernel_rfl) (by kernel_rfl) (by kernel_rfl) (fun _ _ _ h => h) (Or.inl ⟨by rfl, ?_⟩) (by assumption) ?_
          rotate_left 1
          · (intro w' hSw; (try dsimp only at hSw); go_simp; try with_reducible rfl)
          try simp only [Act.put, List.setIfInBounds_toArray, List.set_cons_zero, List.set_cons_succ, List.getElem_toArray, List.getElem_cons_succ, List.getElem_cons_zero]
          refine wpAnyH_take (i := 4) (v := ?_) rfl (by kernel_rfl) (by kernel_rfl) (by kernel_rfl) (fun _ _ _ h => h) (Or.inl ⟨by rfl, ?_⟩) (by assumption) ?_
          rotate_left 1
          · (intro w' hSw; (try dsimp only at hSw); go_simp; try with_reducible rfl)
          try simp only [Act.put, List.setIfInBounds_toArray, List.set_cons_zero, List.set_cons_succ, List.getElem_toArray, List.getElem_cons_succ, List.getElem_cons_zero]
          refine wpAnyH_take (i := 5) (v := ?_) rfl (by kernel_rfl) (by kernel_rfl) (by kernel_rfl) (fun _ _ _ h => h) (Or.inl ⟨by rfl, ?_⟩) (by assumption) ?_
          rotate_left 1
          · (intro w' hSw; (try dsimp only at hSw); go_simp; try with_reducible rfl)
          try simp only [Act.put, List.setIfInBounds_toArray, List.set_cons_zero, List.set_cons_succ, List.getElem_toArray, List.getElem_cons_succ, List.getElem_cons_zero]
          refine wpAnyH_take (i := 6) (v := ?_) rfl (by kernel_rfl) (by kernel_rfl) (by kernel_rfl) (fun _ _ _ h => h) (Or.inl ⟨by rfl, ?_⟩) (by assumption) ?_
          rotate_left 1
          · (intro w' hSw; (try dsimp only at hSw); go_simp; try with_reducible rfl)
          try simp only [Act.put, List.setIfInBounds_toArray, List.set_cons_zero, List.set_cons_succ, List.getElem_toArray, List.getElem_cons_succ, List.getElem_cons_zero]
          refine wpAnyH_take (i := 7) (v := ?_) rfl (by kernel_rfl) (by kernel_rfl) (by kernel_rfl) (fun _ _ _ h => h) (Or.inl ⟨by rfl, ?_⟩) (by assumption) ?_
          rotate_left 1
          · (intro w' hSw; (try dsimp only at hSw); go_simp; try with_reducible rfl)
          try simp only [Act.put, List.setIfInBounds_toArray, List.set_cons_zero, List.set_cons_succ, List.getElem_toArray, List.getElem_cons_succ, List.getElem_cons_zero]
          refine wpAnyH_take (i := 8) (v := ?_) rfl (by kernel_rfl) (by kernel_rfl) (by kernel_rfl) (fun _ _ _ h => h) (Or.inl ⟨by rfl, ?_⟩) (by assumption) ?_
          rotate_left 1
          · (intro w' hSw; (try dsimp only at hSw); go_simp; try with_reducible rfl)
          try simp only [Act.put, List.setIfInBounds_toArray, List.set_cons_zero, List.set_cons_succ, List.getElem_toArray, List.getElem_cons_succ, List.getElem_cons_zero]
          refine wpAnyH_ready (rs := [9]) (by kernel_rfl) (by simp) (AllReadyH.cons rfl (fun K hK => ?_) AllReadyH.nil)
          go_simp
          (refine (ihas_is hsn hhi _).mono ?_; rintro e Wb ⟨rfl, hbb⟩; have hbb := undrew hbb; have hSb := HS7.out _ hbb)
          refine hK.out _ _ (by assumption) (fun _ => ?_)
          try simp only [Act.put, List.setIfInBounds_toArray, List.set_cons_zero, List.set_cons_succ, List.getElem_toArray, List.getElem_cons_succ, List.getElem_cons_zero]
          refine wpAnyH_take (i := 10) (v := ?_) rfl (by kernel_rfl) (by kernel_rfl) (by kernel_rfl) (fun _ _ _ h => h) (Or.inl ⟨by rfl, ?_⟩) (by assumption) ?_
          rotate_left 1
          · (intro w' hSw; (try dsimp only at hSw); go_simp; try with_reducible rfl)
          try simp only [Act.put, List.setIfInBounds_toArray, List.set_cons_zero, List.set_cons_succ, List.getElem_toArray, List.getElem_cons_succ, List.getElem_cons_zero]
          refine wpAnyH_done (by kernel_rfl) ?_ _
          refine ⟨by simp, ?_⟩
          gi_wp2
          have hbb' := below_two hba hbb
          exact ⟨keeps_below hbb' _, ⟨hbb'.mono (by omega), fun v hv => box_next hv hbb'⟩, ⟨-1, HN2, box_next hbL hbb'⟩, ⟨(below_cells hbb' _ _ (by omega)).trans c1, (below_cells hbb' _ _ (by omega)).trans c2⟩, box_next hbN hbb', box_next hbA hbb', below_two hB hbb'⟩
        · have HN2 : Hid (lendL O P n (vals (pre ++ [⟨(k : Int), hx0, hx1⟩])) = some (k : Int)) := by have h := HN.out; rw [if_pos ⟨rfl, of_decide_eq_true hhi⟩] at h; exact h
          refine held_in (S := fun w' => w'.cell? ⟨w.heap.size, 1, none⟩ = some (.slice (some ⟨bo, oo, none⟩) T.length cO) ∧ w'.cell? ⟨bo, oo + k * 4, none⟩ = some (.int .i64 q1) ∧ w'.cell? ⟨bo, oo + k * 4 + 1, none⟩ = some (.int .i64 q2) ∧ w'.cell? ⟨bo, oo + k * 4 + 2, none⟩ = some (.int .i64 q3) ∧ w'.cell? ⟨bo, oo + k * 4 + 3, none⟩ = some (.int .i64 q4) ∧ w'.cell? ⟨w.heap.size + 1, 0, none⟩ = some (.int .i64 n) ∧ w'.cell? ⟨w3.heap.size, 0, none⟩ = some (.int .i64 (-1))) (by kernel_rfl) (by kernel_rfl) (HS7.out _ (Below.refl _ _).drew) (fun hS => ?_)
          refine wpAnyH_take (i := 0) (v := ?_) rfl (by kernel_rfl) (by kernel_rfl) (by kernel_rfl) (fun _ _ _ h => h) (Or.inl ⟨by rfl, ?_⟩) (by assumption) ?_
          rotate_left 1
          · (intro w' hSw; (try dsimp only at hSw); go_simp; try with_reducible rfl)
          try simp only [Act.put, List.setIfInBounds_toArray, List.set_cons_zero, List.set_cons_succ, List.getElem_toArray, List.getElem_cons_succ, List.getElem_cons_zero]
          refine wpAnyH_take (i := 1) (v := ?_) rfl (by kernel_rfl) (by kernel_rfl) (by kernel_rfl) (fun _ _ _ h => h) (Or.inl ⟨by rfl, ?_⟩) (by assumption) ?_
          rotate_left 1
          · (intro w' hSw; (try dsimp only at hSw); go_simp; try with_reducible rfl)
          try simp only [Act.put, List.setIfInBounds_toArray, List.set_cons_zero, List.set_cons_succ, List.getElem_toArray, List.getElem_cons_succ, List.getElem_cons_zero]
          refine wpAnyH_take (i := 2) (v := ?_) rfl (by kernel_rfl) (by kernel_rfl) (by kernel_rfl) (fun _ _ _ h => h) (Or.inl ⟨by rfl, ?_⟩) (by assumption) ?_
          rotate_left 1
          · (intro w' hSw; (try dsimp only at hSw); go_simp; try with_reducible rfl)
          try simp only [Act.put, List.setIfInBounds_toArray, List.set_cons_zero, List.set_cons_succ, List.getElem_toArray, List.getElem_cons_succ, List.getElem_cons_zero]
          refine wpAnyH_take (i := 3) (v := ?_) rfl (by kernel_rfl) (by kernel_rfl) (by kernel_rfl) (fun _ _ _ h => h) (Or.inl ⟨by rfl, ?_⟩) (by assumption) ?_
          rotate_left 1
          · (intro w' hSw; (try dsimp only at hSw); go_simp; try with_reducible rfl)
          try simp only [Act.put, List.setIfInBounds_toArray, List.set_cons_zero, List.set_cons_succ, List.getElem_toArray, List.getElem_cons_succ, List.getElem_cons_zero]
          refine wpAnyH_take (i := 4) (v := ?_) rfl (by kernel_rfl) (by kernel_rfl) (by kernel_rfl) (fun _ _ _ h => h) (Or.inl ⟨by rfl, ?_⟩) (by assumption) ?_
          rotate_left 1
          · (intro w' hSw; (try dsimp only at hSw); go_simp; try with_reducible rfl)
          try simp only [Act.put, List.setIfInBounds_toArray, List.set_cons_zero, List.set_cons_succ, List.getElem_toArray, List.getElem_cons_succ, List.getElem_cons_zero]
          refine wpAnyH_take (i := 5) (v := ?_) rfl (by kernel_rfl) (by kernel_rfl) (by kernel_rfl) (fun _ _ _ h => h) (Or.inl ⟨by rfl, ?_⟩) (by assumption) ?_
          rotate_left 1
          · (intro w' hSw; (try dsimp only at hSw); go_simp; try with_reducible rfl)
          try simp only [Act.put, List.setIfInBounds_toArray, List.set_cons_zero, List.set_cons_succ, List.getElem_toArray, List.getElem_cons_succ, List.getElem_cons_zero]
          refine wpAnyH_take (i := 6) (v := ?_) rfl (by kernel_rfl) (by kernel_rfl) (by kernel_rfl) (fun _ _ _ h => h) (Or.inl ⟨by rfl, ?_⟩) (by assumption) ?_
          rotate_left 1
          · (intro w' hSw; (try dsimp only at hSw); go_simp; try with_reducible rfl)
          try simp only [Act.put, List.setIfInBounds_toArray, List.set_cons_zero, List.set_cons_succ, List.getElem_toArray, List.getElem_cons_succ, List.getElem_cons_zero]
          refine wpAnyH_take (i := 7) (v := ?_) rfl (by kernel_rfl) (by kernel_rfl) (by kernel_rfl) (fun _ _ _ h => h) (Or.inl ⟨by rfl, ?_⟩) (by assumption) ?_
          rotate_left 1
          · (intro w' hSw; (try dsimp only at hSw); go_simp; try with_reducible rfl)
          try simp only [Act.put, List.setIfInBounds_toArray, List.set_cons_zero, List.set_cons_succ, List.getElem_toArray, List.getElem_cons_succ, List.getElem_cons_zero]
          refine wpAnyH_take (i := 8) (v := ?_) rfl (by kernel_rfl) (by kernel_rfl) (by kernel_rfl) (fun _ _ _ h => h) (Or.inl ⟨by rfl, ?_⟩) (by assumption) ?_
          rotate_left 1
          · (intro w' hSw; (try dsimp only at hSw); go_simp; try with_reducible rfl)
          try simp only [Act.put, List.setIfInBounds_toArray, List.set_cons_zero, List.set_cons_succ, List.getElem_toArray, List.getElem_cons_succ, List.getElem_cons_zero]
          refine wpAnyH_ready (rs := [9]) (by kernel_rfl) (by simp) (AllReadyH.cons rfl (fun K hK => ?_) AllReadyH.nil)
          go_simp
          (refine (ihas_is hsn hhi _).mono ?_; rintro e Wb ⟨rfl, hbb⟩; have hbb := undrew hbb; have hSb := HS7.out _ hbb)
          refine hK.out _ _ (by assumption) (fun _ => ?_)
          try simp only [Act.put, List.setIfInBounds_toArray, List.set_cons_zero, List.set_cons_succ, List.getElem_toArray, List.getElem_cons_succ, List.getElem_cons_zero]
          refine wpAnyH_take (i := 10) (v := ?_) rfl (by kernel_rfl) (by kernel_rfl) (by kernel_rfl) (fun _ _ _ h => h) (Or.inl ⟨by rfl, ?_⟩) (by assumption) ?_
          rotate_left 1
          · (intro w' hSw; (try dsimp only at hSw); go_simp; try with_reducible rfl)
          try simp only [Act.put, List.setIfInBounds_toArray, List.set_cons_zero, List.set_cons_succ, List.getElem_toArray, List.getElem_cons_succ, List.getElem_cons_zero]
          refine wpAnyH_done (by kernel_rfl) ?_ _
          refine ⟨by simp, ?_⟩
          have hbb' := below_two hba hbb
          have hbLb := box_next hbL hbb'
          have nL : w3.heap.size ≠ w.heap.size := by omega
          have hcL := hbLb.cell
          have hfL := hbLb.frozen
          gi_wp2
          exact ⟨(keeps_below hbb' _).trans ((KeepsOthers.setCell _ _ _).from _), ⟨(hbb'.mono (by omega)).setCell (p := ⟨w3.heap.size, 0, none⟩) (by simp only; omega) _, fun v hv => (box_next hv hbb').other (by omega) _⟩, ⟨(k : Int), HN2, hbLb.set _⟩, ⟨(set_far nL).trans ((below_cells hbb' _ _ (by omega)).trans c1), (set_far nL).trans ((below_cells hbb' _ _ (by omega)).trans c2)⟩, (box_next hbN hbb').other (by omega) _, (box_next hbA hbb').other (by omega) _, (below_two hB hbb').setCell (p := ⟨w3.heap.size, 0, none⟩) (by simp only; omega) _⟩
      · have hcn : (c == -1) = false := by simp [hc]
        have HN2 : Hid (lendL O P n (vals (pre ++ [⟨(k : Int), hx0, hx1⟩])) = some c) := by have h := HN.out; rw [if_neg (fun hk => hc hk.1)] at h; exact h
        refine held_in (S := fun w' => w'.cell? ⟨w.heap.size, 1, none⟩ = some (.slice (some ⟨bo, oo, none⟩) T.length cO) ∧ w'.cell? ⟨bo, oo + k * 4, none⟩ = some (.int .i64 q1) ∧ w'.cell? ⟨bo, oo + k * 4 + 1, none⟩ = some (.int .i64 q2) ∧ w'.cell? ⟨bo, oo + k * 4 + 2, none⟩ = some (.int .i64 q3) ∧ w'.cell? ⟨bo, oo + k * 4 + 3, none⟩ = some (.int .i64 q4) ∧ w'.cell? ⟨w.heap.size + 1, 0, none⟩ = some (.int .i64 n) ∧ w'.cell? ⟨w3.heap.size, 0, none⟩ = some (.int .i64 c)) (by kernel_rfl) (by kernel_rfl) (HS7.out _ (Below.refl _ _).drew) (fun hS => ?_)
        refine wpAnyH_take (i := 0) (v := ?_) rfl (by kernel_rfl) (by kernel_rfl) (by kernel_rfl) (fun _ _ _ h => h) (Or.inl ⟨by rfl, ?_⟩) (by assumption) ?_
        rotate_left 1
        · (intro w' hSw; (try dsimp only at hSw); go_simp; try with_reducible rfl)
        try simp only [Act.put, List.setIfInBounds_toArray, List.set_cons_zero, List.set_cons_succ, List.getElem_toArray, List.getElem_cons_succ, List.getElem_cons_zero]
        refine wpAnyH_take (i := 1) (v := ?_) rfl (by kernel_rfl) (by kernel_rfl) (by kernel_rfl) (fun _ _ _ h => h) (Or.inl ⟨by rfl, ?_⟩) (by assumption) ?_
        rotate_left 1
        · (intro w' hSw; (try dsimp only at hSw); go_simp; try with_reducible rfl)
        try simp only [Act.put, List.setIfInBounds_toArray, List.set_cons_zero, List.set_cons_succ, List.getElem_toArray, List.getElem_cons_succ, List.getElem_cons_zero]
        refine wpAnyH_take (i := 2) (v := ?_) rfl (by kernel_rfl) (by kernel_rfl) (by kernel_rfl) (fun _ _ _ h => h) (Or.inl ⟨by rfl, ?_⟩) (by assumption) ?_
        rotate_left 1
        · (intro w' hSw; (try dsimp only at hSw); go_simp; try with_reducible rfl)
        try simp only [Act.put, List.setIfInBounds_toArray, List.set_cons_zero, List.set_cons_succ, List.getElem_toArray, List.getElem_cons_succ, List.getElem_cons_zero]
        refine wpAnyH_take (i := 3) (v := undef) rfl (by kernel_rfl) (by kernel_rfl) (by kernel_rfl) (fun _ _ _ h => h) (Or.inr ⟨by rfl, rfl⟩) (by assumption) ?_
        try simp only [Act.put, List.setIfInBounds_toArray, List.set_cons_zero, List.set_cons_succ, List.getElem_toArray, List.getElem_cons_succ, List.getElem_cons_zero]
        refine wpAnyH_take (i := 4) (v := undef) rfl (by kernel_rfl) (by kernel_rfl) (by kernel_rfl) (fun _ _ _ h => h) (Or.inr ⟨by rfl, rfl⟩) (by assumption) ?_
        try simp only [Act.put, List.setIfInBounds_toArray, List.set_cons_zero, List.set_cons_succ, List.getElem_toArray, List.getElem_cons_succ, List.getElem_cons_zero]
        refine wpAnyH_take (i := 5) (v := undef) rfl (by kernel_rfl) (by kernel_rfl) (by kernel_rfl) (fun _ _ _ h => h) (Or.inr ⟨by rfl, rfl⟩) (by assumption) ?_
        try simp only [Act.put, List.setIfInBounds_toArray, List.set_cons_zero, List.set_cons_succ, List.getElem_toArray, List.getElem_cons_succ, List.getElem_cons_zero]
        refine wpAnyH_take (i := 6) (v := undef) rfl (by kernel_rfl) (by kernel_rfl) (by kernel_rfl) (fun _ _ _ h => h) (Or.inr ⟨by rfl, rfl⟩) (by assumption) ?_
        try simp only [Act.put, List.setIfInBounds_toArray, List.set_cons_zero, List.set_cons_succ, List.getElem_toArray, List.getElem_cons_succ, List.getElem_cons_zero]
        refine wpAnyH_take (i := 7) (v := undef) rfl (by kernel_rfl) (by kernel_rfl) (by kernel_rfl) (fun _ _ _ h => h) (Or.inr ⟨by rfl, rfl⟩) (by assumption) ?_
        try simp only [Act.put, List.setIfInBounds_toArray, List.set_cons_zero, List.set_cons_succ, List.getElem_toArray, List.getElem_cons_succ, List.getElem_cons_zero]
        refine wpAnyH_take (i := 8) (v := undef) rfl (by kernel_rfl) (by kernel_rfl) (by kernel_rfl) (fun _ _ _ h => h) (Or.inr ⟨by rfl, rfl⟩) (by assumption) ?_
        try simp only [Act.put, List.setIfInBounds_toArray, List.set_cons_zero, List.set_cons_succ, List.getElem_toArray, List.getElem_cons_succ, List.getElem_cons_zero]
        refine wpAnyH_take (i := 9) (v := undef) rfl (by kernel_rfl) (by kernel_rfl) (by kernel_rfl) (fun _ _ _ h => h) (Or.inr ⟨by rfl, rfl⟩) (by assumption) ?_
        try simp only [Act.put, List.setIfInBounds_toArray, List.set_cons_zero, List.set_cons_succ, List.getElem_toArray, List.getElem_cons_succ, List.getElem_cons_zero]
        refine wpAnyH_take (i := 10) (v := ?_) rfl (by kernel_rfl) (by kernel_rfl) (by kernel_rfl) (fun _ _ _ h => h) (Or.inl ⟨by rfl, ?_⟩) (by assumption) ?_
        rotate_left 1
        · (intro w' hSw; (try dsimp only at hSw); go_simp; try with_reducible rfl)
        try simp only [Act.put, List.setIfInBounds_toArray, List.set_cons_zero, List.set_cons_succ, List.getElem_toArray, List.getElem_cons_succ, List.getElem_cons_zero]
        refine wpAnyH_done (by kernel_rfl) ?_ _
        refine ⟨by simp, ?_⟩
        gi_wp2
        have hbb' : Below W.heap.size W Wa.drew := below_two hba (Below.refl _ _).drew
        exact ⟨keeps_below hbb' _, ⟨hbb'.mono (by omega), fun v hv => box_next hv hbb'⟩, ⟨c, HN2, box_next hbL hbb'⟩, ⟨(below_cells hbb' _ _ (by omega)).trans c1, (below_cells hbb' _ _ (by omega)).trans c2⟩, box_next hbN hbb', box_next hbA hbb', below_two hB hbb'⟩
  case done =>
    rintro D ys W hD hys ⟨⟨c, HC, hbL⟩, _, hbN, hbA, hB⟩ hK
    have HA : Hid (lendAns O P n (pathOf T leaf) = c) := by show lendAns O P n _ = c; unfold lendAns; rw [← hys, HC.out]
    have hcL := hbL.cell
    have hcA := hbA.cell
    have hfA := hbA.frozen
    gi_wp2
    have hK' := (KeepsOthers.setCell W ⟨w.heap.size + 1 + 1, 0, none⟩ (.int .i64 c)).same D _ hK rfl
    refine ⟨by simp, .inl ⟨_, _, rfl, run_takeDeferred hK', ?_⟩⟩
    have hc5 := cell_kept (World.cell?_setCell_same' W ⟨w.heap.size + 1 + 1, 0, none⟩ (.int .i64 c) (by rw [hcA]; rfl)) (grownBy_putObj' _ D (.deferred none)) (fun r e => by cases e; exact ⟨_, hK', rfl⟩)
    refine ⟨.int .i64 c, ?_, by rw [HA.out], (hB.setCell (p := ⟨w.heap.size + 1 + 1, 0, none⟩) (by simp only; omega) _).trans (belowK_b (w := w) (Nat.le_refl _) _ D _ _ (by simp at hD; omega) hK' rfl rfl)⟩
    simp [results, Try.f124, go_sem, hc5]
  case stop =>
    rintro D c pre W hD hpre ⟨⟨rfl, HN, hbA⟩, hB⟩ hK
    have HA : Hid (lendAns O P n (pathOf T leaf) = -1) := by show lendAns O P n _ = -1; unfold lendAns; rw [lendL_none HN.out hpre]
    have hcA := hbA.cell
    gi_wp2
    refine ⟨by simp, .inl ⟨_, _, rfl, run_takeDeferred hK, ?_⟩⟩
    have hc5 := cell_kept hcA (grownBy_putObj' _ D (.deferred none)) (fun r e => by cases e; exact ⟨_, hK, rfl⟩)
    refine ⟨.int .i64 (-1), ?_, by rw [HA.out], hB.trans (belowK_b (w := w) (Nat.le_refl _) W D _ _ (by simp at hD; omega) hK rfl rfl)⟩
    simp [results, Try.f124, go_sem, hc5]
end Go.Proofs.Ytmophpbfaonfmac
