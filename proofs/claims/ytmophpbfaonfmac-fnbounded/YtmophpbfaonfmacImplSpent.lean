/- What impl.spentOf does: it asks who lends, and takes what is lent. -/
import Derived.Test.YtmophpbfaonfmacImplPay
import Derived.Test.YtmophpbfaonfmacImplNew
namespace Go.Proofs.Ytmophpbfaonfmac
open Go.ChangeShapes Go.WideShapes Go.ChangeAt Go.RowKit Go.Shelf
set_option maxRecDepth 100000
set_option linter.unusedVariables false
set_option linter.unusedSimpArgs false

/-- A Lend in a variable, its three rows, the answer's place. -/
structure SpSt (w W : World) (gT cT gO cO gP cP : Nat) (T O P : List Q4) : Prop where
  box : Cells W [(w.heap.size, 0, .slice (some ⟨gT, 0, none⟩) T.length cT), (w.heap.size, 1, .slice (some ⟨gO, 0, none⟩) O.length cO), (w.heap.size, 2, .slice (some ⟨gP, 0, none⟩) P.length cP), (w.heap.size + 1, 0, .slice none 0 0), (w.heap.size + 1, 1, .slice none 0 0), (w.heap.size + 1, 2, .slice none 0 0)]
  free : ∀ o : Nat, W.frozen? ⟨w.heap.size + 1, o, none⟩ = false
  fT : QFill W gT T.length T T.length
  fO : QFill W gO O.length O O.length
  fP : QFill W gP P.length P P.length
  only : OnlyP (fun k => k = gO ∨ k = gP) w W
/-- The three rows lie ahead, each its own. -/
structure Rows3 (w : World) (gT gO gP : Nat) : Prop where
  t : gT < w.heap.size
  o : gO < w.heap.size
  p : gP < w.heap.size
  ab : gT ≠ gO
  ac : gT ≠ gP
  bc : gO ≠ gP
section
variable {w W W' : World} {gT cT gO cO gP cP : Nat} {T O P : List Q4}
theorem SpSt.sz (d : SpSt w W gT cT gO cO gP cP T O P) : w.heap.size + 2 ≤ W.heap.size := by
  obtain ⟨_, _, _, ⟨h, _⟩, _⟩ := d.box
  exact h
theorem SpSt.next (d : SpSt w W gT cT gO cO gP cP T O P) (r : Rows3 w gT gO gP) (h : Below W.heap.size W W') : SpSt w W' gT cT gO cO gP cP T O P := by
  have hs := d.sz
  have r1 := r.t
  have r2 := r.o
  have r3 := r.p
  exact ⟨Cells.next h d.box, fun o => (below_frozens h _ _ (by omega)).trans (d.free o), d.fT.mono h (by omega), d.fO.mono h (by omega), d.fP.mono h (by omega), (d.only.trans (OnlyP.of_below (p := fun _ => False) h)).weak (fun k hk => hk.elim id False.elim)⟩
theorem SpSt.only1 (d : SpSt w W gT cT gO cO gP cP T O P) (r : Rows3 w gT gO gP) {g : Nat} (hg : g = gO ∨ g = gP) (h : OnlyO (some g) W W') : Cells W' [(w.heap.size, 0, .slice (some ⟨gT, 0, none⟩) T.length cT), (w.heap.size, 1, .slice (some ⟨gO, 0, none⟩) O.length cO), (w.heap.size, 2, .slice (some ⟨gP, 0, none⟩) P.length cP), (w.heap.size + 1, 0, .slice none 0 0), (w.heap.size + 1, 1, .slice none 0 0), (w.heap.size + 1, 2, .slice none 0 0)] ∧ (∀ o : Nat, W'.frozen? ⟨w.heap.size + 1, o, none⟩ = false) ∧ QFill W' gT T.length T T.length ∧ OnlyP (fun k => k = gO ∨ k = gP) w W' := by
  have hs := d.sz
  have r1 := r.t
  have r2 := r.o
  have r3 := r.p
  have r4 := r.ab
  have r5 := r.ac
  refine ⟨Cells.onlyO h (fun c hc e => ?_) d.box, fun o => (h.frozen (by simp only; omega) (fun e => by have e1 : g = w.heap.size + 1 := Option.some.inj e; omega)).trans (d.free o), d.fT.onlyO h (by omega) (fun e => by have e1 : g = gT := Option.some.inj e; omega), (d.only.trans (OnlyP.of h)).weak (fun k hk => ?_)⟩
  · have e1 : g = c.1 := Option.some.inj e
    simp only [List.mem_cons, List.not_mem_nil, or_false] at hc
    rcases hc with rfl | rfl | rfl | rfl | rfl | rfl <;> simp only at e1 <;> omega
  · rcases hk with hk | hk
    · exact hk
    · have e1 : g = k := Option.some.inj hk
      omega
theorem SpSt.payP (d : SpSt w W gT cT gO cO gP cP T O P) (r : Rows3 w gT gO gP) {P2 : List Q4} (hl : P2.length = P.length) (h : OnlyO (some gP) W W') (f : QFill W' gP P.length P2 P.length) : SpSt w W' gT cT gO cO gP cP T O P2 := by
  obtain ⟨c, fr, ft, on⟩ := d.only1 r (.inr rfl) h
  have r2 := r.o
  have r4 := r.bc
  have hs := d.sz
  refine ⟨by rw [hl]; exact c, fr, ft, d.fO.onlyO h (by omega) (fun e => by have e1 : gP = gO := Option.some.inj e; omega), by rw [hl]; exact f, on⟩
theorem SpSt.payO (d : SpSt w W gT cT gO cO gP cP T O P) (r : Rows3 w gT gO gP) {O2 : List Q4} (hl : O2.length = O.length) (h : OnlyO (some gO) W W') (f : QFill W' gO O.length O2 O.length) : SpSt w W' gT cT gO cO gP cP T O2 P := by
  obtain ⟨c, fr, ft, on⟩ := d.only1 r (.inl rfl) h
  have r3 := r.p
  have r4 := r.bc
  have hs := d.sz
  refine ⟨by rw [hl]; exact c, fr, ft, by rw [hl]; exact f, d.fP.onlyO h (by omega) (fun e => by have e1 : gO = gP := Option.some.inj e; omega), on⟩
theorem SpSt.start (r : Rows3 w gT gO gP) (fT : QFill w gT T.length T T.length) (fO : QFill w gO O.length O O.length) (fP : QFill w gP P.length P P.length) : SpSt w ((w.alloc (.cells #[.slice (some ⟨gT, 0, none⟩) T.length cT, .slice (some ⟨gO, 0, none⟩) O.length cO, .slice (some ⟨gP, 0, none⟩) P.length cP] 64)).alloc (.cells #[.slice none 0 0, .slice none 0 0, .slice none 0 0] 64)) gT cT gO cO gP cP T O P :=
  ⟨⟨⟨by simp <;> omega, by go_simp⟩, ⟨by simp <;> omega, by go_simp⟩, ⟨by simp <;> omega, by go_simp⟩, ⟨by simp, by go_simp⟩, ⟨by simp, by go_simp⟩, ⟨by simp, by go_simp⟩, trivial⟩, fun o => by go_simp, fT.mono (by go_grown) r.t, fO.mono (by go_grown) r.o, fP.mono (by go_grown) r.p, OnlyP.of_below (by go_grown)⟩
end
theorem up_is (a : Option Addr) (m cap : Nat) (i : Int) (w : World) : Calls Try.prog 84 #[.slice a m cap, .int .i64 i] w fun e w' => e = .returned (.func (.func 119) #[] #[.pointer (some ⟨w.heap.size + 1, 0, none⟩), .pointer (some ⟨w.heap.size, 0, none⟩)]) ∧ w' = (w.alloc (.cells #[.slice a m cap] 53)).alloc (.cells #[.int .i64 i] 2) := (callsIn_wide (n := 3)).1 (up_in Fence.wide 3 trivial rfl a m cap i w)
/-- What impl.upward lays: a class's number and the tree, boxed. -/
theorem up_lays {a : Option Addr} {m cap : Nat} {i : Int} {w w' : World} (h : w' = (w.alloc (.cells #[.slice a m cap] 53)).alloc (.cells #[.int .i64 i] 2)) : Below w.heap.size w w' ∧ Boxed w' (w.heap.size + 1) 2 (.int .i64 i) ∧ Boxed w' w.heap.size 53 (.slice a m cap) := by
  subst h
  refine ⟨((Below.refl _ w).alloc (Nat.le_refl _) _).alloc (by simp) _, ?_, (Boxed.new w _ _).alloc _⟩
  have b := Boxed.new (w.alloc (.cells #[.slice a m cap] 53)) 2 (.int .i64 i)
  simpa using b
/-- What spentOf answers. -/
def SpentPost (w : World) (gT cT gO cO gP cP : Nat) (T O P : List Q4) (f : Bool) (e : Ending) (w' : World) : Prop := e = .returned (.tuple #[lendV (some ⟨gT, 0, none⟩) T.length cT (some ⟨gO, 0, none⟩) O.length cO (some ⟨gP, 0, none⟩) P.length cP, .bool f]) ∧ QFill w' gT T.length T T.length ∧ QFill w' gO O.length O O.length ∧ QFill w' gP P.length P P.length ∧ OnlyP (fun k => k = gO ∨ k = gP) w w'
theorem sp_fin {w W : World} {gT cT gO cO gP cP : Nat} {T O P : List Q4} (d : SpSt w W gT cT gO cO gP cP T O P) (r : Rows3 w gT gO gP) (a b c : Value) (f : Bool) : SpentPost w gT cT gO cO gP cP T O P f (.returned (.tuple #[lendV (some ⟨gT, 0, none⟩) T.length cT (some ⟨gO, 0, none⟩) O.length cO (some ⟨gP, 0, none⟩) P.length cP, .bool f])) (((W.setCell ⟨w.heap.size + 1, 0, none⟩ a).setCell ⟨w.heap.size + 1, 1, none⟩ b).setCell ⟨w.heap.size + 1, 2, none⟩ c) := by
  have r1 := r.t
  have r2 := r.o
  have r3 := r.p
  refine ⟨rfl, ((d.fT.far _ (by simp only; omega)).far _ (by simp only; omega)).far _ (by simp only; omega), ((d.fO.far _ (by simp only; omega)).far _ (by simp only; omega)).far _ (by simp only; omega), ((d.fP.far _ (by simp only; omega)).far _ (by simp only; omega)).far _ (by simp only; omega), ?_⟩
  refine ⟨d.only.os, d.only.tape, d.only.output, by simpa using d.only.size, fun k hk hn => ?_⟩
  rw [Below.heap_setCell _ _ _ _ (by simp only; omega), Below.heap_setCell _ _ _ _ (by simp only; omega), Below.heap_setCell _ _ _ _ (by simp only; omega)]
  exact d.only.block k hk hn
set_option maxHeartbeats 4000000 in
theorem spent_none {w : World} {gT cT gO cO gP cP : Nat} {T O P : List Q4} (leaf n : Int) (r : Rows3 w gT gO gP) (fT : QFill w gT T.length T T.length) (fO : QFill w gO O.length O O.length) (fP : QFill w gP P.length P P.length) (lO : O.length = T.length) (lP : P.length = T.length)
    (hh : hasB T leaf = true) (hlf : leafB T leaf = true) (hsg : segB n = true) (hno : lendAns O P n (pathOf T leaf) = -1) :
    Calls Try.prog 97 #[lendV (some ⟨gT, 0, none⟩) T.length cT (some ⟨gO, 0, none⟩) O.length cO (some ⟨gP, 0, none⟩) P.length cP, .int .i64 leaf, .int .i64 n] w (SpentPost w gT cT gO cO gP cP T O P false) := by
  have D : Hid (SpSt w ((w.alloc (.cells #[.slice (some ⟨gT, 0, none⟩) T.length cT, .slice (some ⟨gO, 0, none⟩) O.length cO, .slice (some ⟨gP, 0, none⟩) P.length cP] 64)).alloc (.cells #[.slice none 0 0, .slice none 0 0, .slice none 0 0] 64)) gT cT gO cO gP cP T O P) := SpSt.start r fT fO fP
  have hL := fun (W : World) (q1 : Quad W.heap.size W (some ⟨gT, 0, none⟩) T) (q2 : Quad W.heap.size W (some ⟨gO, 0, none⟩) O) (q3 : Quad W.heap.size W (some ⟨gP, 0, none⟩) P) => lender_yes cT cO cP leaf n q1 q2 q3 lO lP hh hlf hsg
  rw [hno] at hL
  have hs := D.out.sz
  have q1 : Quad ((w.alloc (.cells #[.slice (some ⟨gT, 0, none⟩) T.length cT, .slice (some ⟨gO, 0, none⟩) O.length cO, .slice (some ⟨gP, 0, none⟩) P.length cP] 64)).alloc (.cells #[.slice none 0 0, .slice none 0 0, .slice none 0 0] 64)).heap.size ((w.alloc (.cells #[.slice (some ⟨gT, 0, none⟩) T.length cT, .slice (some ⟨gO, 0, none⟩) O.length cO, .slice (some ⟨gP, 0, none⟩) P.length cP] 64)).alloc (.cells #[.slice none 0 0, .slice none 0 0, .slice none 0 0] 64)) (some ⟨gT, 0, none⟩) T := D.out.fT.quad (by have := r.t; omega)
  have q2 : Quad ((w.alloc (.cells #[.slice (some ⟨gT, 0, none⟩) T.length cT, .slice (some ⟨gO, 0, none⟩) O.length cO, .slice (some ⟨gP, 0, none⟩) P.length cP] 64)).alloc (.cells #[.slice none 0 0, .slice none 0 0, .slice none 0 0] 64)).heap.size ((w.alloc (.cells #[.slice (some ⟨gT, 0, none⟩) T.length cT, .slice (some ⟨gO, 0, none⟩) O.length cO, .slice (some ⟨gP, 0, none⟩) P.length cP] 64)).alloc (.cells #[.slice none 0 0, .slice none 0 0, .slice none 0 0] 64)) (some ⟨gO, 0, none⟩) O := D.out.fO.quad (by have := r.o; omega)
  have q3 : Quad ((w.alloc (.cells #[.slice (some ⟨gT, 0, none⟩) T.length cT, .slice (some ⟨gO, 0, none⟩) O.length cO, .slice (some ⟨gP, 0, none⟩) P.length cP] 64)).alloc (.cells #[.slice none 0 0, .slice none 0 0, .slice none 0 0] 64)).heap.size ((w.alloc (.cells #[.slice (some ⟨gT, 0, none⟩) T.length cT, .slice (some ⟨gO, 0, none⟩) O.length cO, .slice (some ⟨gP, 0, none⟩) P.length cP] 64)).alloc (.cells #[.slice none 0 0, .slice none 0 0, .slice none 0 0] 64)) (some ⟨gP, 0, none⟩) P := D.out.fP.quad (by have := r.p; omega)
  have hl := hL _ q1 q2 q3
  clear hL q1 q2 q3 lO lP hno hh hlf hsg fT fO fP hs
  go_enter Try.func97, Try.ntmps97
  go_wp2_with (first | (go_at_call 124; refine hl.mono ?_; clear hl; rintro e w3 ⟨rfl, hb3⟩; have D3 : Hid (SpSt w w3 gT cT gO cO gP cP T O P) := D.out.next r hb3; have ⟨⟨_, k0⟩, ⟨_, k1⟩, ⟨_, k2⟩, ⟨_, k3⟩, ⟨_, k4⟩, ⟨_, k5⟩, _⟩ := D3.out.box; have fr := D3.out.free))
  refine bodyPost_ret (results_two rfl _ _ _ [.slice (some ⟨gT, 0, none⟩) T.length cT, .slice (some ⟨gO, 0, none⟩) O.length cO, .slice (some ⟨gP, 0, none⟩) P.length cP] rfl (set_three (u0 := .slice none 0 0) (u1 := .slice none 0 0) (u2 := .slice none 0 0) _ _ _ k3 k4 k5) Try.underlying64 rfl (by kernel_rfl)) rfl ?_
  exact sp_fin D3.out r _ _ _ false
set_option maxHeartbeats 8000000 in
theorem spent_yes {w : World} {gT cT gO cO gP cP : Nat} {T O P : List Q4} (leaf n lender : Int) (r : Rows3 w gT gO gP) (fT : QFill w gT T.length T T.length) (fO : QFill w gO O.length O O.length) (fP : QFill w gP P.length P P.length) (lO : O.length = T.length) (lP : P.length = T.length) (vO : LvlIn 0 1000000000000000000 O) (vP : LvlIn 0 1000000000000000000 P)
    (hh : hasB T leaf = true) (hlf : leafB T leaf = true) (hsg : segB n = true) (hno : lendAns O P n (pathOf T leaf) = lender) (hle : hasB T lender = true) :
    Calls Try.prog 97 #[lendV (some ⟨gT, 0, none⟩) T.length cT (some ⟨gO, 0, none⟩) O.length cO (some ⟨gP, 0, none⟩) P.length cP, .int .i64 leaf, .int .i64 n] w (SpentPost w gT cT gO cO gP cP T (payL n O (pathOf T lender)) (payL n P (pathOf T leaf)) true) := by
  have D : Hid (SpSt w ((w.alloc (.cells #[.slice (some ⟨gT, 0, none⟩) T.length cT, .slice (some ⟨gO, 0, none⟩) O.length cO, .slice (some ⟨gP, 0, none⟩) P.length cP] 64)).alloc (.cells #[.slice none 0 0, .slice none 0 0, .slice none 0 0] 64)) gT cT gO cO gP cP T O P) := SpSt.start r fT fO fP
  have hL := fun (W : World) (q1 : Quad W.heap.size W (some ⟨gT, 0, none⟩) T) (q2 : Quad W.heap.size W (some ⟨gO, 0, none⟩) O) (q3 : Quad W.heap.size W (some ⟨gP, 0, none⟩) P) => lender_yes cT cO cP leaf n q1 q2 q3 lO lP hh hlf hsg
  rw [hno] at hL
  have hs := D.out.sz
  have q1 : Quad ((w.alloc (.cells #[.slice (some ⟨gT, 0, none⟩) T.length cT, .slice (some ⟨gO, 0, none⟩) O.length cO, .slice (some ⟨gP, 0, none⟩) P.length cP] 64)).alloc (.cells #[.slice none 0 0, .slice none 0 0, .slice none 0 0] 64)).heap.size ((w.alloc (.cells #[.slice (some ⟨gT, 0, none⟩) T.length cT, .slice (some ⟨gO, 0, none⟩) O.length cO, .slice (some ⟨gP, 0, none⟩) P.length cP] 64)).alloc (.cells #[.slice none 0 0, .slice none 0 0, .slice none 0 0] 64)) (some ⟨gT, 0, none⟩) T := D.out.fT.quad (by have := r.t; omega)
  have q2 : Quad ((w.alloc (.cells #[.slice (some ⟨gT, 0, none⟩) T.length cT, .slice (some ⟨gO, 0, none⟩) O.length cO, .slice (some ⟨gP, 0, none⟩) P.length cP] 64)).alloc (.cells #[.slice none 0 0, .slice none 0 0, .slice none 0 0] 64)).heap.size ((w.alloc (.cells #[.slice (some ⟨gT, 0, none⟩) T.length cT, .slice (some ⟨gO, 0, none⟩) O.length cO, .slice (some ⟨gP, 0, none⟩) P.length cP] 64)).alloc (.cells #[.slice none 0 0, .slice none 0 0, .slice none 0 0] 64)) (some ⟨gO, 0, none⟩) O := D.out.fO.quad (by have := r.o; omega)
  have q3 : Quad ((w.alloc (.cells #[.slice (some ⟨gT, 0, none⟩) T.length cT, .slice (some ⟨gO, 0, none⟩) O.length cO, .slice (some ⟨gP, 0, none⟩) P.length cP] 64)).alloc (.cells #[.slice none 0 0, .slice none 0 0, .slice none 0 0] 64)).heap.size ((w.alloc (.cells #[.slice (some ⟨gT, 0, none⟩) T.length cT, .slice (some ⟨gO, 0, none⟩) O.length cO, .slice (some ⟨gP, 0, none⟩) P.length cP] 64)).alloc (.cells #[.slice none 0 0, .slice none 0 0, .slice none 0 0] 64)) (some ⟨gP, 0, none⟩) P := D.out.fP.quad (by have := r.p; omega)
  have hl := hL _ q1 q2 q3
  have hsn := seg_num hsg
  obtain ⟨ht, i0, i1⟩ := has_tree hh
  obtain ⟨_, j0, j1⟩ := has_tree hle
  have hw := ht.sound.well
  have h30 := ht.l1
  have hlp := payL_length n P (pathOf T leaf)
  have hlo := payL_length n O (pathOf T lender)
  have hl0 : (lender == -1) = false := by rw [beq_eq_false_iff_ne]; omega
  have hl1 : ¬ lender = -1 := by omega
  have payP : Hid (∀ (U : World) (Bi Bt : Nat), SpSt w U gT cT gO cO gP cP T O P → Boxed U Bi 2 (.int .i64 leaf) → Boxed U Bt 53 (.slice (some ⟨gT, 0, none⟩) T.length cT) → w.heap.size ≤ Bt → Calls Try.prog 125 #[.func (.func 119) #[] #[.pointer (some ⟨Bi, 0, none⟩), .pointer (some ⟨Bt, 0, none⟩)], .slice (some ⟨gP, 0, none⟩) P.length cP, .int .i64 n] U fun e w' => e = .returned (.tuple #[]) ∧ SpSt w w' gT cT gO cO gP cP T O (payL n P (pathOf T leaf))) := fun U Bi Bt d bi bt hz => (pay_any cP leaf n bi bt (d.fT.quad (by have := d.sz; have := r.t; omega)) (fun b o e => (by have e1 : gT = b := congrArg (·.block) (Option.some.inj e); have := r.ac; omega)) (by have := r.p; omega) hw h30 i0 i1 lP d.fP (by have := d.sz; have := r.p; omega) vP hsn).mono (fun e w' h => ⟨h.1, d.payP r hlp h.2.2 h.2.1⟩)
  have payO : Hid (∀ (U : World) (Bi Bt : Nat) (P2 : List Q4), SpSt w U gT cT gO cO gP cP T O P2 → Boxed U Bi 2 (.int .i64 lender) → Boxed U Bt 53 (.slice (some ⟨gT, 0, none⟩) T.length cT) → w.heap.size ≤ Bt → Calls Try.prog 125 #[.func (.func 119) #[] #[.pointer (some ⟨Bi, 0, none⟩), .pointer (some ⟨Bt, 0, none⟩)], .slice (some ⟨gO, 0, none⟩) O.length cO, .int .i64 n] U fun e w' => e = .returned (.tuple #[]) ∧ SpSt w w' gT cT gO cO gP cP T (payL n O (pathOf T lender)) P2) := fun U Bi Bt P2 d bi bt hz => (pay_any cO lender n bi bt (d.fT.quad (by have := d.sz; have := r.t; omega)) (fun b o e => (by have e1 : gT = b := congrArg (·.block) (Option.some.inj e); have := r.ab; omega)) (by have := r.o; omega) hw h30 j0 j1 lO d.fO (by have := d.sz; have := r.o; omega) vO hsn).mono (fun e w' h => ⟨h.1, d.payO r hlo h.2.2 h.2.1⟩)
  obtain ⟨P2, hP2⟩ : ∃ P2, payL n P (pathOf T leaf) = P2 := ⟨_, rfl⟩
  obtain ⟨O2, hO2⟩ : ∃ O2, payL n O (pathOf T lender) = O2 := ⟨_, rfl⟩
  rw [hP2] at payP hlp ⊢
  rw [hO2] at payO hlo ⊢
  have HLP : Hid (P2.length = P.length) := hlp
  have HLO : Hid (O2.length = O.length) := hlo
  clear hL q1 q2 q3 lO lP hno hh hlf hsg fT fO fP hs ht hlp hlo hP2 hO2 vO vP hw h30 i0 i1 j0 j1 hle
  have hup := fun (i : Int) (W : World) => up_is (some ⟨gT, 0, none⟩) T.length cT i W
  go_enter Try.func97, Try.ntmps97
  go_upto_region 4 with (first | (go_at_call 124; refine hl.mono ?_; clear hl; rintro e w3 ⟨rfl, hb3⟩; have D3 : Hid (SpSt w w3 gT cT gO cO gP cP T O P) := D.out.next r hb3))
  have z3 := D3.out.sz
  refine wp_region_held_drew (S := fun w' => w'.cell? ⟨w.heap.size, 0, none⟩ = some (.slice (some ⟨gT, 0, none⟩) T.length cT) ∧ w'.cell? ⟨w.heap.size, 2, none⟩ = some (.slice (some ⟨gP, 0, none⟩) P.length cP)) (by kernel_rfl) ((by have ⟨⟨_, e0⟩, ⟨_, e1⟩, ⟨_, e2⟩, _⟩ := (D3.out.next r (Below.refl _ _).drew).box; exact ⟨e0, e2⟩)) (fun hS => ?_)
  refine wpAnyH_take (i := 0) (v := ?_) rfl (by kernel_rfl) (by kernel_rfl) (by kernel_rfl) (fun _ _ _ h => h) (Or.inl ⟨by rfl, ?_⟩) (by assumption) ?_
  rotate_left 1
  · (intro w' hSw; (try dsimp only at hSw); go_simp; try with_reducible rfl)
  try simp only [Act.put, List.setIfInBounds_toArray, List.set_cons_zero, List.set_cons_succ, List.getElem_toArray, List.getElem_cons_succ, List.getElem_cons_zero]
  refine wpAnyH_take (i := 1) (v := ?_) rfl (by kernel_rfl) (by kernel_rfl) (by kernel_rfl) (fun _ _ _ h => h) (Or.inl ⟨by rfl, ?_⟩) (by assumption) ?_
  rotate_left 1
  · (intro w' hSw; (try dsimp only at hSw); go_simp; try with_reducible rfl)
  try simp only [Act.put, List.setIfInBounds_toArray, List.set_cons_zero, List.set_cons_succ, List.getElem_toArray, List.getElem_cons_succ, List.getElem_cons_zero]
  refine wpAnyH_take (i := 2) (v := ?_) rfl (by kernel_rfl) (by kernel_rfl) (by kernel_rfl) (fun _ _ _ h => h) (Or.inl ⟨by rfl, ?_⟩) (by assumption) ?_
  rotate_left 1
  · (intro w' hSw; (try dsimp only at hSw); go_simp; try with_reducible rfl)
  try simp only [Act.put, List.setIfInBounds_toArray, List.set_cons_zero, List.set_cons_succ, List.getElem_toArray, List.getElem_cons_succ, List.getElem_cons_zero]
  refine wpAnyH_take (i := 4) (v := ?_) rfl (by kernel_rfl) (by kernel_rfl) (by kernel_rfl) (fun _ _ _ h => h) (Or.inl ⟨by rfl, ?_⟩) (by assumption) ?_
  rotate_left 1
  · (intro w' hSw; (try dsimp only at hSw); go_simp; try with_reducible rfl)
  try simp only [Act.put, List.setIfInBounds_toArray, List.set_cons_zero, List.set_cons_succ, List.getElem_toArray, List.getElem_cons_succ, List.getElem_cons_zero]
  refine wpAnyH_take (i := 5) (v := ?_) rfl (by kernel_rfl) (by kernel_rfl) (by kernel_rfl) (fun _ _ _ h => h) (Or.inl ⟨by rfl, ?_⟩) (by assumption) ?_
  rotate_left 1
  · (intro w' hSw; (try dsimp only at hSw); go_simp; try with_reducible rfl)
  try simp only [Act.put, List.setIfInBounds_toArray, List.set_cons_zero, List.set_cons_succ, List.getElem_toArray, List.getElem_cons_succ, List.getElem_cons_zero]
  refine wpAnyH_take (i := 6) (v := ?_) rfl (by kernel_rfl) (by kernel_rfl) (by kernel_rfl) (fun _ _ _ h => h) (Or.inl ⟨by rfl, ?_⟩) (by assumption) ?_
  rotate_left 1
  · (intro w' hSw; (try dsimp only at hSw); go_simp; try with_reducible rfl)
  try simp only [Act.put, List.setIfInBounds_toArray, List.set_cons_zero, List.set_cons_succ, List.getElem_toArray, List.getElem_cons_succ, List.getElem_cons_zero]
  refine wpAnyH_ready (rs := [3]) (by kernel_rfl) (by simp) (AllReadyH.cons rfl (fun K hK => ?_) AllReadyH.nil)
  go_simp
  (refine (hup _ _).mono ?_; rintro e wu ⟨rfl, hu⟩; obtain ⟨hbu, bi, bt⟩ := up_lays hu; have hbu := undrew hbu; have DU : Hid (SpSt w wu gT cT gO cO gP cP T O P) := D3.out.next r hbu; have hSu := (show (fun w' => w'.cell? ⟨w.heap.size, 0, none⟩ = some (.slice (some ⟨gT, 0, none⟩) T.length cT) ∧ w'.cell? ⟨w.heap.size, 2, none⟩ = some (.slice (some ⟨gP, 0, none⟩) P.length cP)) wu from (by have ⟨⟨_, e0⟩, ⟨_, e1⟩, ⟨_, e2⟩, _⟩ := DU.out.box; exact ⟨e0, e2⟩)); clear hu; simp only [World.drew] at bi bt; simp only [])
  refine hK.out _ _ (by assumption) (fun _ => ?_)
  try simp only [Act.put, List.setIfInBounds_toArray, List.set_cons_zero, List.set_cons_succ, List.getElem_toArray, List.getElem_cons_succ, List.getElem_cons_zero]
  refine wpAnyH_ready (rs := [7]) (by kernel_rfl) (by simp) (AllReadyH.cons rfl (fun K hK => ?_) AllReadyH.nil)
  go_simp
  (refine (payP.out _ _ _ DU.out bi bt (by omega)).mono ?_; rintro e w5 ⟨rfl, dv⟩; have D5 : Hid (SpSt w w5 gT cT gO cO gP cP T O P2) := dv; have hSv := (show (fun w' => w'.cell? ⟨w.heap.size, 0, none⟩ = some (.slice (some ⟨gT, 0, none⟩) T.length cT) ∧ w'.cell? ⟨w.heap.size, 2, none⟩ = some (.slice (some ⟨gP, 0, none⟩) P.length cP)) w5 from (by have ⟨⟨_, e0⟩, ⟨_, e1⟩, ⟨_, e2⟩, _⟩ := D5.out.box; rw [HLP.out] at e2; exact ⟨e0, e2⟩)); clear dv; simp only [])
  refine hK.out _ _ (by assumption) (fun _ => ?_)
  try simp only [Act.put, List.setIfInBounds_toArray, List.set_cons_zero, List.set_cons_succ, List.getElem_toArray, List.getElem_cons_succ, List.getElem_cons_zero]
  refine wpAnyH_done (by kernel_rfl) ?_ _
  repeat go_step
  refine wp_region_held_drew (S := fun w' => w'.cell? ⟨w.heap.size, 0, none⟩ = some (.slice (some ⟨gT, 0, none⟩) T.length cT) ∧ w'.cell? ⟨w.heap.size, 1, none⟩ = some (.slice (some ⟨gO, 0, none⟩) O.length cO)) (by kernel_rfl) ((by have ⟨⟨_, e0⟩, ⟨_, e1⟩, ⟨_, e2⟩, _⟩ := (D5.out.next r (Below.refl _ _).drew).box; exact ⟨e0, e1⟩)) (fun hS => ?_)
  refine wpAnyH_take (i := 0) (v := ?_) rfl (by kernel_rfl) (by kernel_rfl) (by kernel_rfl) (fun _ _ _ h => h) (Or.inl ⟨by rfl, ?_⟩) (by assumption) ?_
  rotate_left 1
  · (intro w' hSw; (try dsimp only at hSw); go_simp; try with_reducible rfl)
  try simp only [Act.put, List.setIfInBounds_toArray, List.set_cons_zero, List.set_cons_succ, List.getElem_toArray, List.getElem_cons_succ, List.getElem_cons_zero]
  refine wpAnyH_take (i := 1) (v := ?_) rfl (by kernel_rfl) (by kernel_rfl) (by kernel_rfl) (fun _ _ _ h => h) (Or.inl ⟨by rfl, ?_⟩) (by assumption) ?_
  rotate_left 1
  · (intro w' hSw; (try dsimp only at hSw); go_simp; try with_reducible rfl)
  try simp only [Act.put, List.setIfInBounds_toArray, List.set_cons_zero, List.set_cons_succ, List.getElem_toArray, List.getElem_cons_succ, List.getElem_cons_zero]
  refine wpAnyH_take (i := 2) (v := ?_) rfl (by kernel_rfl) (by kernel_rfl) (by kernel_rfl) (fun _ _ _ h => h) (Or.inl ⟨by rfl, ?_⟩) (by assumption) ?_
  rotate_left 1
  · (intro w' hSw; (try dsimp only at hSw); go_simp; try with_reducible rfl)
  try simp only [Act.put, List.setIfInBounds_toArray, List.set_cons_zero, List.set_cons_succ, List.getElem_toArray, List.getElem_cons_succ, List.getElem_cons_zero]
  refine wpAnyH_take (i := 4) (v := ?_) rfl (by kernel_rfl) (by kernel_rfl) (by kernel_rfl) (fun _ _ _ h => h) (Or.inl ⟨by rfl, ?_⟩) (by assumption) ?_
  rotate_left 1
  · (intro w' hSw; (try dsimp only at hSw); go_simp; try with_reducible rfl)
  try simp only [Act.put, List.setIfInBounds_toArray, List.set_cons_zero, List.set_cons_succ, List.getElem_toArray, List.getElem_cons_succ, List.getElem_cons_zero]
  refine wpAnyH_take (i := 5) (v := ?_) rfl (by kernel_rfl) (by kernel_rfl) (by kernel_rfl) (fun _ _ _ h => h) (Or.inl ⟨by rfl, ?_⟩) (by assumption) ?_
  rotate_left 1
  · (intro w' hSw; (try dsimp only at hSw); go_simp; try with_reducible rfl)
  try simp only [Act.put, List.setIfInBounds_toArray, List.set_cons_zero, List.set_cons_succ, List.getElem_toArray, List.getElem_cons_succ, List.getElem_cons_zero]
  refine wpAnyH_take (i := 6) (v := ?_) rfl (by kernel_rfl) (by kernel_rfl) (by kernel_rfl) (fun _ _ _ h => h) (Or.inl ⟨by rfl, ?_⟩) (by assumption) ?_
  rotate_left 1
  · (intro w' hSw; (try dsimp only at hSw); go_simp; try with_reducible rfl)
  try simp only [Act.put, List.setIfInBounds_toArray, List.set_cons_zero, List.set_cons_succ, List.getElem_toArray, List.getElem_cons_succ, List.getElem_cons_zero]
  refine wpAnyH_ready (rs := [3]) (by kernel_rfl) (by simp) (AllReadyH.cons rfl (fun K hK => ?_) AllReadyH.nil)
  go_simp
  (refine (hup _ _).mono ?_; rintro e wu2 ⟨rfl, hu⟩; obtain ⟨hbu, bi, bt⟩ := up_lays hu; have hbu := undrew hbu; have DU2 : Hid (SpSt w wu2 gT cT gO cO gP cP T O P2) := D5.out.next r hbu; have hSu := (show (fun w' => w'.cell? ⟨w.heap.size, 0, none⟩ = some (.slice (some ⟨gT, 0, none⟩) T.length cT) ∧ w'.cell? ⟨w.heap.size, 1, none⟩ = some (.slice (some ⟨gO, 0, none⟩) O.length cO)) wu2 from (by have ⟨⟨_, e0⟩, ⟨_, e1⟩, ⟨_, e2⟩, _⟩ := DU2.out.box; exact ⟨e0, e1⟩)); clear hu; simp only [World.drew] at bi bt; simp only [])
  refine hK.out _ _ (by assumption) (fun _ => ?_)
  try simp only [Act.put, List.setIfInBounds_toArray, List.set_cons_zero, List.set_cons_succ, List.getElem_toArray, List.getElem_cons_succ, List.getElem_cons_zero]
  refine wpAnyH_ready (rs := [7]) (by kernel_rfl) (by simp) (AllReadyH.cons rfl (fun K hK => ?_) AllReadyH.nil)
  go_simp
  (refine (payO.out _ _ _ _ DU2.out bi bt (by have := D5.out.sz; omega)).mono ?_; rintro e w6 ⟨rfl, dv⟩; have D6 : Hid (SpSt w w6 gT cT gO cO gP cP T O2 P2) := dv; have hSv := (show (fun w' => w'.cell? ⟨w.heap.size, 0, none⟩ = some (.slice (some ⟨gT, 0, none⟩) T.length cT) ∧ w'.cell? ⟨w.heap.size, 1, none⟩ = some (.slice (some ⟨gO, 0, none⟩) O.length cO)) w6 from (by have ⟨⟨_, e0⟩, ⟨_, e1⟩, ⟨_, e2⟩, _⟩ := D6.out.box; rw [HLO.out] at e1; exact ⟨e0, e1⟩)); clear dv; simp only [])
  refine hK.out _ _ (by assumption) (fun _ => ?_)
  try simp only [Act.put, List.setIfInBounds_toArray, List.set_cons_zero, List.set_cons_succ, List.getElem_toArray, List.getElem_cons_succ, List.getElem_cons_zero]
  refine wpAnyH_done (by kernel_rfl) ?_ _
  have ⟨⟨_, k0⟩, ⟨_, k1⟩, ⟨_, k2⟩, ⟨_, k3⟩, ⟨_, k4⟩, ⟨_, k5⟩, _⟩ := D6.out.box
  have fr := D6.out.free
  rw [HLO.out] at k1
  rw [HLP.out] at k2
  go_wp2
  refine bodyPost_ret (results_two rfl _ _ _ [.slice (some ⟨gT, 0, none⟩) T.length cT, .slice (some ⟨gO, 0, none⟩) O.length cO, .slice (some ⟨gP, 0, none⟩) P.length cP] rfl (set_three (u0 := .slice none 0 0) (u1 := .slice none 0 0) (u2 := .slice none 0 0) _ _ _ k3 k4 k5) Try.underlying64 rfl (by kernel_rfl)) rfl ?_
  have hf := sp_fin D6.out r (.slice (some ⟨gT, 0, none⟩) T.length cT) (.slice (some ⟨gO, 0, none⟩) O.length cO) (.slice (some ⟨gP, 0, none⟩) P.length cP) true
  refine ⟨?_, hf.2⟩
  rw [HLO.out, HLP.out]
  rfl
end Go.Proofs.Ytmophpbfaonfmac
