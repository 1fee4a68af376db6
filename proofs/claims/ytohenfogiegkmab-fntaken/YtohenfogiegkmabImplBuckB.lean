/- What impl's fills answer. -/
import Derived.Test.YtohenfogiegkmabImplBuckA
import Derived.Deep.DeepCutAuto
namespace Go.Proofs.Ytohenfogiegkmab
open Go.ChangeShapes Go.WideShapes Go.ChangeAt Go.RowKit
set_option maxRecDepth 100000
set_option linter.unusedVariables false
set_option linter.unusedSimpArgs false

/-- A bucket in a variable, and the answer's place. -/
structure Pair4 (w wd : World) (a c : Nat) (r u l t : Int) : Prop where
  c0 : wd.cell? ⟨a, 0, none⟩ = some (.int .i64 r)
  c1 : wd.cell? ⟨a, 1, none⟩ = some (.int .i64 u)
  c2 : wd.cell? ⟨a, 2, none⟩ = some (.int .i64 l)
  c3 : wd.cell? ⟨a, 3, none⟩ = some (.int .i64 t)
  d0 : wd.cell? ⟨c, 0, none⟩ = some (.int .i64 0)
  d1 : wd.cell? ⟨c, 1, none⟩ = some (.int .i64 0)
  d2 : wd.cell? ⟨c, 2, none⟩ = some (.int .i64 0)
  d3 : wd.cell? ⟨c, 3, none⟩ = some (.int .i64 0)
  fa : ∀ o : Nat, wd.frozen? ⟨a, o, none⟩ = false
  fb : ∀ o : Nat, wd.frozen? ⟨c, o, none⟩ = false
  hb : Below w.heap.size w wd
  y0 : a < wd.heap.size
  y1 : c < wd.heap.size
  ya : w.heap.size ≤ a
  ne : a ≠ c
theorem Pair4.next {w wd w' : World} {a c : Nat} {r u l t : Int} (h : Pair4 w wd a c r u l t) (k : Below wd.heap.size wd w') : Pair4 w w' a c r u l t :=
  have e := below_cells4 k
  have f := below_frozens4 k
  ⟨(e _ _ h.y0).trans h.c0, (e _ _ h.y0).trans h.c1, (e _ _ h.y0).trans h.c2, (e _ _ h.y0).trans h.c3, (e _ _ h.y1).trans h.d0, (e _ _ h.y1).trans h.d1, (e _ _ h.y1).trans h.d2, (e _ _ h.y1).trans h.d3,
    fun o => (f _ _ h.y0).trans (h.fa o), fun o => (f _ _ h.y1).trans (h.fb o), below_two h.hb k, Nat.lt_of_lt_of_le h.y0 k.size, Nat.lt_of_lt_of_le h.y1 k.size, h.ya, h.ne⟩
theorem far4 {w : World} {b c i j : Nat} {v : Value} (h : b ≠ c) : (w.setCell ⟨b, i, none⟩ v).cell? ⟨c, j, none⟩ = w.cell? ⟨c, j, none⟩ := by
  apply World.cell?_setCell_other
  intro e
  injection e with e _ _
  exact h e
theorem Pair4.set2 {w wd : World} {a c : Nat} {r u l t : Int} (h : Pair4 w wd a c r u l t) (x : Int) : Pair4 w (wd.setCell ⟨a, 2, none⟩ (.int .i64 x)) a c r u x t :=
  ⟨(set_other4 (by decide)).trans h.c0, (set_other4 (by decide)).trans h.c1, set_same4 _ h.c2, (set_other4 (by decide)).trans h.c3, (far4 h.ne).trans h.d0, (far4 h.ne).trans h.d1, (far4 h.ne).trans h.d2, (far4 h.ne).trans h.d3,
    fun o => by simp [h.fa], fun o => by simp [h.fb], h.hb.setCell (by exact h.ya) _, by simp; exact h.y0, by simp; exact h.y1, h.ya, h.ne⟩
theorem Pair4.least {w wd : World} {a c : Nat} {r u l t x y : Int} (h : Pair4 w wd a c r u l t) : Pair4 w (wd.setCell ⟨a, 2, none⟩ (.int .i64 (if y < x then y else x))) a c r u (min x y) t := by
  have e : (if y < x then y else x) = min x y := by
    by_cases k : y < x
    · rw [if_pos k, Int.min_eq_right (Int.le_of_lt k)]
    · rw [if_neg k, Int.min_eq_left (by omega)]
  rw [e]
  exact h.set2 _
theorem pair_new {w : World} {r u l t : Int} : Pair4 w ((w.alloc (.cells #[.int .i64 r, .int .i64 u, .int .i64 l, .int .i64 t] 49)).alloc (.cells #[.int .i64 0, .int .i64 0, .int .i64 0, .int .i64 0] 49)) w.heap.size (w.heap.size + 1) r u l t :=
  ⟨by go_simp, by go_simp, by go_simp, by go_simp, by go_simp, by go_simp, by go_simp, by go_simp, fun o => by go_simp, fun o => by go_simp, by go_grown, by simp; omega, by simp, Nat.le_refl _, by omega⟩
def bringX (f : Bool) (P u : Int) : Int := if f = true then P else 1000000000 * u
set_option maxHeartbeats 4000000 in
theorem ifilled_late {r u l t now : Int} (w : World) (f : Bool) (P : Int) (h : bokB r u l t = true) (hn : timeB now = true) (hlt : t < now) (M1 : Hid (mdOk r (now - t) 1 = f)) (M2 : Hid (mdQ r (now - t) 1 = P)) (X : Int) (hX : Hid (bringX f P u = X)) (hX0 : 0 ≤ X) (hX1 : X ≤ 9223372036854775807) :
    Calls Try.prog 83 #[.agg #[.int .i64 r, .int .i64 u, .int .i64 l, .int .i64 t], .int .i64 now] w fun e w' => e = .returned (.agg #[.int .i64 r, .int .i64 u, .int .i64 (min (satAdd l X) (1000000000 * u)), .int .i64 now]) ∧ Below w.heap.size w w' := by
  obtain ⟨nr, nu, nl, nt⟩ := bok_num h
  have nn := tim_num hn
  go_enter Try.func83, Try.ntmps83
  go_upto_if 23 with (first
    | (go_at_call 72; refine (implMulDiv_any _ _ _ _ (by omega) (by omega) (by omega)).mono ?_; rintro e w2 ⟨rfl, hb2⟩; rw [M1.out, M2.out]; have D : Hid (Pair4 w w2 w.heap.size (w.heap.size + 1) r u l t) := pair_new.next hb2; obtain ⟨c0, c1, c2, c3, d0, d1, d2, d3, fa, fb, hbw, y0, y1, ya, ne⟩ := D.out; clear hb2))
  go_cut [5] from 22 (fun s wd => s = .int .i64 X ∧ Pair4 w wd w.heap.size (w.heap.size + 1) r u l t)
  case first =>
    cases f
    · rw [Bool.not_false]
      go_wp2_with (first
        | (go_at_call 70; refine (ifull_any _ _ _ _ _ nu).mono ?_; rintro e w5 ⟨rfl, hb5⟩; have D5 : Hid (Pair4 w w5 w.heap.size (w.heap.size + 1) r u l t) := D.out.next hb5))
      go_meet
      exact ⟨by rw [← hX.out]; rfl, D5.out⟩
    · rw [Bool.not_true]
      go_wp2
      go_meet
      exact ⟨by rw [← hX.out]; rfl, D.out⟩
  case rest =>
  clear D c0 c1 c2 c3 d0 d1 d2 d3 fa fb hbw y0 y1 ya ne
  obtain ⟨rfl, d⟩ := hcut
  have D : Hid (Pair4 w wc w.heap.size (w.heap.size + 1) r u l t) := d
  obtain ⟨c0, c1, c2, c3, d0, d1, d2, d3, fa, fb, hbw, y0, y1, ya, ne⟩ := d
  go_upto_region 6 with fail
  go_cut [] from 22 (fun wd => Pair4 w wd w.heap.size (w.heap.size + 1) r u (min (satAdd l X) (1000000000 * u)) t)
  case first =>
    go_region_with
      (first
        | (go_at_call 89; refine (implAdd_any _ _ _ (by omega) (by omega) (by omega) (by omega)).mono ?_; rintro e w3 ⟨rfl, rfl⟩)
        | (go_at_call 70; refine (ifull_any _ _ _ _ _ nu).mono ?_; rintro e w4 ⟨rfl, hb4⟩; have D4 : Hid (Pair4 w w4 w.heap.size (w.heap.size + 1) r u l t) := D.out.next (below_two (w := wc) (by go_grown) hb4); have c0 := D4.out.c0; have c1 := D4.out.c1; have c2 := D4.out.c2; have c3 := D4.out.c3; have fa := D4.out.fa))
    all_goals (repeat go_step)
    all_goals go_meet
    all_goals exact D4.out.least
  case rest =>
  clear D c0 c1 c2 c3 d0 d1 d2 d3 fa fb hbw y0 y1 ya ne
  obtain ⟨c0, c1, c2, c3, d0, d1, d2, d3, fa, fb, hbw, y0, y1, ya, ne⟩ := hcut
  go_wp2
  refine bodyPost_ret (results_one rfl _ _ _ [.int .i64 r, .int .i64 u, .int .i64 (min (satAdd l X) (1000000000 * u)), .int .i64 now] rfl (cells_set4 (u0 := .int .i64 0) (u1 := .int .i64 0) (u2 := .int .i64 0) (u3 := .int .i64 0) _ _ _ _ ?_ ?_ ?_ ?_) Try.underlying49 rfl (by kernel_rfl)) rfl ?_
  · go_simp
  · go_simp
  · go_simp
  · go_simp
  exact ⟨rfl, by go_grown⟩
set_option maxHeartbeats 1000000 in
theorem ifilled_any {r u l t now : Int} (w : World) (h : bokB r u l t = true) (hn : timeB now = true) :
    Calls Try.prog 83 #[.agg #[.int .i64 r, .int .i64 u, .int .i64 l, .int .i64 t], .int .i64 now] w fun e w' => e = .returned (.agg #[.int .i64 r, .int .i64 u, .int .i64 (fillL r u l t now), .int .i64 (fillT t now)]) ∧ Below w.heap.size w w' := by
  obtain ⟨nr, nu, nl, nt⟩ := bok_num h
  have nn := tim_num hn
  by_cases hle : now ≤ t
  · have e1 : fillL r u l t now = l := if_pos hle
    have e2 : fillT t now = t := if_pos hle
    rw [e1, e2]
    go_enter Try.func83, Try.ntmps83
    go_wp2
    refine bodyPost_ret (results_one rfl _ _ _ [.int .i64 r, .int .i64 u, .int .i64 l, .int .i64 t] rfl (cells_four (by go_simp) (by go_simp) (by go_simp) (by go_simp)) Try.underlying49 rfl (by kernel_rfl)) rfl ?_
    exact ⟨rfl, by go_grown⟩
  · have e1 : fillL r u l t now = min (1000000000 * u) (l + r * (now - t)) := if_neg hle
    have e2 : fillT t now = now := if_neg hle
    rw [e1, e2]
    obtain ⟨m1, m2⟩ := md_one nr.1 (show 0 ≤ now - t by omega)
    have hP0 : 0 ≤ r * (now - t) := Int.mul_nonneg nr.1 (by omega)
    by_cases hP : r * (now - t) ≤ 9223372036854775807
    · have m1' : mdOk r (now - t) 1 = true := m1.trans (decide_eq_true hP)
      rw [← fill_yes nu nl hP0 hP, Int.min_comm]
      exact ifilled_late w true _ h hn (by omega) m1' (m2 m1') _ rfl hP0 hP
    · have m1' : mdOk r (now - t) 1 = false := m1.trans (decide_eq_false hP)
      rw [← fill_no nu nl (by omega), Int.min_comm]
      exact ifilled_late w false _ h hn (by omega) m1' rfl _ rfl (by show 0 ≤ 1000000000 * u; omega) (by show 1000000000 * u ≤ _; omega)
end Go.Proofs.Ytohenfogiegkmab
