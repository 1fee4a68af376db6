/- The draws of what Join, Quit, Room, Claim and Free take. -/
import Derived.Test.YtoeiheccmpjclafDraw13b
import Derived.Test.YtoeiheccmpjclafDrawSize
import Derived.Deep.CutRange
import Derived.Deep.CutBlock
namespace Go.Proofs.Ytoeiheccmpjclaf
open Go.ChangeShapes Go.WideShapes Go.ChangeAt Go.RowKit
set_option maxRecDepth 100000
set_option linter.unusedVariables false
set_option linter.unusedSimpArgs false

theorem ackTab13_in (X : Nat) (h : X < 5) : ∃ y : Int, (#[Value.int IntKind.i64 0, Value.int IntKind.i64 1, Value.int IntKind.i64 1000000000, Value.int IntKind.i64 1000000001, Value.int IntKind.i64 (-1)] : Array Value)[X]? = some (.int .i64 y) := by
  match X, h with
  | 0, _ => exact ⟨_, rfl⟩
  | 1, _ => exact ⟨_, rfl⟩
  | 2, _ => exact ⟨_, rfl⟩
  | 3, _ => exact ⟨_, rfl⟩
  | 4, _ => exact ⟨_, rfl⟩
set_option maxHeartbeats 400000 in
theorem ack13_acc {B : Nat} {a0 : Option Addr} {len cap b : Nat} {w0 w : World} (c : Cur B a0 len cap b w) (o : Only b w0 w) :
    Calls Try.prog 67 #[.pointer (some ⟨b, 0, none⟩)] w fun e w' => ∃ x : Int, e = .returned (.int .i64 x) ∧ Cur B a0 len cap b w' ∧ Only b w0 w' := by
  go_enter Try.func67, Try.ntmps67
  go_wp2_with (first
    | (go_at_call 68; refine (once_acc _ (by assumption) (by assumption) (by omega) (by omega)).mono ?_; rintro e w2 ⟨f, rfl, c, o⟩; cases f)
    | (go_at_call_of 70 (Value.int IntKind.i64 20000); refine (below_acc _ (by assumption) (by assumption) (by omega) (by omega)).mono ?_; rintro e w2 ⟨x, rfl, hx, c, o⟩)
    | (go_at_call_of 70 (Value.int IntKind.i64 5); refine (below_acc 5 (Cur.alloc (by assumption) _) (Only.refl _ _) (by omega) (by omega)).mono ?_; rintro e w3 ⟨x, rfl, hx, c3, o3⟩; obtain ⟨X, rfl⟩ := Int.eq_ofNat_of_zero_le hx.1; obtain ⟨y, hy⟩ := ackTab13_in X (by omega); have hcell := (table_cell (Cur.hi (by assumption)) o3 X).trans hy; clear hy))
  all_goals go_ret
  all_goals first | exact ⟨_, rfl, c3, (o.alloc _).trans o3⟩ | exact ⟨_, rfl, c, o⟩
theorem idTab_in (X : Nat) (h : X < 3) : ∃ y : Int, (#[Value.int IntKind.i64 (-1), Value.int IntKind.i64 1000000, Value.int IntKind.i64 1000001] : Array Value)[X]? = some (.int .i64 y) := by
  match X, h with
  | 0, _ => exact ⟨_, rfl⟩
  | 1, _ => exact ⟨_, rfl⟩
  | 2, _ => exact ⟨_, rfl⟩
set_option maxHeartbeats 4000000 in
theorem drawId_acc {B : Nat} {a0 : Option Addr} {len cap b : Nat} {w : World} {lo : Nat} {wd fl : Int} {a : Option Addr} {n c : Nat} {ys : List Int} (k : Cur B a0 len cap b w) (f : IV w lo (.slice a n c) ys) (hob : ∀ g, (Value.slice a n c).ownBlock = some g → g ≠ b) (hl : ys.length ≤ 51) :
    Calls Try.prog 44 #[.pointer (some ⟨b, 0, none⟩), .agg #[.int .i64 wd, .int .i64 fl, .slice a n c]] w fun e w' => ∃ x : Int, e = .returned (.int .i64 x) ∧ Cur B a0 len cap b w' ∧ Only b w w' := by
  have hlt := k.hi
  have hnn : n = ys.length := by
    rcases f with ⟨g, c', e, _⟩ | ⟨e, hy⟩
    · injection e
    · injection e with _ e2 _
      rw [e2, hy]
      rfl
  have HN : Hid (n = ys.length) := hnn
  have hn51 : n ≤ 51 := by omega
  have hcell : Hid (∀ X, X < n → ∃ g z, a = some ⟨g, 0, none⟩ ∧ g < w.heap.size ∧ g ≠ b ∧ w.cell? ⟨g, X, none⟩ = some (.int .i64 z)) := by
    intro X hX
    rcases f with ⟨g, c', e, _, hg, ff, _⟩ | ⟨e, hy⟩
    · have hg2 := hob g (by rw [e]; rfl)
      injection e with e1 _ _
      exact ⟨g, _, e1, hg, hg2, ff.got X (by omega) (by omega)⟩
    · injection e with _ e2 _
      omega
  clear hnn hob f
  have k0 := k.alloc (.cells #[.int .i64 wd, .int .i64 fl, .slice a n c] 37)
  have o0 : Only b w (w.alloc (.cells #[.int .i64 wd, .int .i64 fl, .slice a n c] 37)) := Only.of_below (new_below _ _)
  obtain ⟨x, hx⟩ : ∃ x, x = w.alloc (.cells #[.int .i64 wd, .int .i64 fl, .slice a n c] 37) := ⟨_, rfl⟩
  have p2 : x.cell? ⟨w.heap.size, 2, none⟩ = some (.slice a n c) := by rw [hx]; go_simp
  have hxz : w.heap.size < x.heap.size := by rw [hx]; simp
  have HC : Hid (∀ X, X < n → ∃ g z, a = some ⟨g, 0, none⟩ ∧ g < x.heap.size ∧ g ≠ b ∧ x.cell? ⟨g, X, none⟩ = some (.int .i64 z)) := fun X hX => by
    obtain ⟨g, z, e, h1, h2, h3⟩ := hcell.out X hX
    exact ⟨g, z, e, by omega, h2, by rw [hx]; exact ((new_below w _).cell (by exact h1)).trans h3⟩
  rw [← hx] at k0 o0
  go_enter Try.func44, Try.ntmps44
  go_upto_region 1 with (fail)
  rw [← hx]
  clear hx hcell
  by_cases hn : 0 < n
  · have hn' : (0 : Int) < (n : Int) := by omega
    have hnd : decide ((0 : Int) < (n : Int)) = true := decide_eq_true hn'
    go_upto_if 12 with (first
      | (go_at_call 68; refine (once_acc _ k0 (Only.refl _ _) (by omega) (by omega)).mono ?_; rintro e w2 ⟨f2, rfl, k2, o2⟩; have p2 := (o2.cell (p := ⟨w.heap.size, 2, none⟩) (by exact hxz) (by show w.heap.size ≠ b; omega)).trans p2; have oo := o0.trans o2; have z2 := o2.size))
    cases f2
    · go_wp2_with (first
        | (go_at_call 68; refine (once_acc _ k2 (Only.refl _ _) (by omega) (by omega)).mono ?_; rintro e w3 ⟨f3, rfl, k3, o3⟩; have oo := oo.trans o3; cases f3)
        | (go_at_call_of 70 (Value.int IntKind.i64 3); refine (below_acc 3 (k3.alloc _) (Only.refl _ _) (by omega) (by omega)).mono ?_; rintro e w4 ⟨x4, rfl, hx4, k4, o4⟩; obtain ⟨X, rfl⟩ := Int.eq_ofNat_of_zero_le hx4.1; obtain ⟨y, hy⟩ := idTab_in X (by omega); have hcell := (table_cell k3.hi o4 X).trans hy; clear hy; have hX3 : (X : Int) < 3 := (by omega))
        | (go_at_call_of 70 (Value.int IntKind.i64 14); refine (below_acc 14 k3 (Only.refl _ _) (by omega) (by omega)).mono ?_; rintro e w4 ⟨x4, rfl, hx4, k4, o4⟩))
      · go_ret
        exact ⟨_, rfl, k4, oo.trans o4⟩
      · go_ret
        exact ⟨_, rfl, k4, (oo.trans (Only.of_below (new_below _ _))).trans o4⟩
    · go_upto_region 2 with (fail)
      have HS : Hid (∀ w', Only b w2 w' → (fun w' => w'.cell? ⟨w.heap.size, 2, none⟩ = some (.slice a n c)) w') := fun w' o => (o.cell (by show w.heap.size < _; omega) (by show w.heap.size ≠ b; omega)).trans p2
      have hS := HS.out _ (Only.of_below (Below.refl _ _).drew)
      have kD := k2.mono (Below.refl _ _).drew
      have hn1 : (n : Int) ≤ 51 := by omega
      refine wp_region_held_drew (S := fun w' => w'.cell? ⟨w.heap.size, 2, none⟩ = some (.slice a n c)) (by kernel_rfl) hS (fun hS => ?_)
      refine wpAnyH_take (i := 0) (v := ?_) rfl (by kernel_rfl) (by kernel_rfl) (by kernel_rfl) (fun _ _ _ h => h) (Or.inl ⟨by rfl, ?_⟩) (by assumption) ?_
      rotate_left 1
      · (intro w' hSw; (try dsimp only at hSw); go_simp; try with_reducible rfl)
      try simp only [Act.put, List.setIfInBounds_toArray, List.set_cons_zero, List.set_cons_succ, List.getElem_toArray, List.getElem_cons_succ, List.getElem_cons_zero]
      refine wpAnyH_take (i := 1) (v := ?_) rfl (by kernel_rfl) (by kernel_rfl) (by kernel_rfl) (fun _ _ _ h => h) (Or.inl ⟨by rfl, ?_⟩) (by assumption) ?_
      rotate_left 1
      · (intro w' hSw; (try dsimp only at hSw); go_simp; try with_reducible rfl)
      try simp only [Act.put, List.setIfInBounds_toArray, List.set_cons_zero, List.set_cons_succ, List.getElem_toArray, List.getElem_cons_succ, List.getElem_cons_zero]
      refine wpAnyH_take (i := 2) (v := ?_) rfl (by kernel_rfl) (by kernel_rfl) (by kernel_rfl) (fun _ _ _ h => h) (Or.inl ⟨by rfl, ?_⟩) (by assumption) ?_
      rotate_left 1
      · (intro w' hSw; (try dsimp only at hSw); go_simp; try with_reducible rfl)
      try simp only [Act.put, List.setIfInBounds_toArray, List.set_cons_zero, List.set_cons_succ, List.getElem_toArray, List.getElem_cons_succ, List.getElem_cons_zero]
      refine wpAnyH_take (i := 3) (v := ?_) rfl (by kernel_rfl) (by kernel_rfl) (by kernel_rfl) (fun _ _ _ h => h) (Or.inl ⟨by rfl, ?_⟩) (by assumption) ?_
      rotate_left 1
      · (intro w' hSw; (try dsimp only at hSw); go_simp; try with_reducible rfl)
      try simp only [Act.put, List.setIfInBounds_toArray, List.set_cons_zero, List.set_cons_succ, List.getElem_toArray, List.getElem_cons_succ, List.getElem_cons_zero]
      refine wpAnyH_take (i := 4) (v := ?_) rfl (by kernel_rfl) (by kernel_rfl) (by kernel_rfl) (fun _ _ _ h => h) (Or.inl ⟨by rfl, ?_⟩) (by assumption) ?_
      rotate_left 1
      · (intro w' hSw; (try dsimp only at hSw); go_simp; try with_reducible rfl)
      try simp only [Act.put, List.setIfInBounds_toArray, List.set_cons_zero, List.set_cons_succ, List.getElem_toArray, List.getElem_cons_succ, List.getElem_cons_zero]
      refine wpAnyH_take (i := 5) (v := ?_) rfl (by kernel_rfl) (by kernel_rfl) (by kernel_rfl) (fun _ _ _ h => h) (Or.inl ⟨by rfl, ?_⟩) (by assumption) ?_
      rotate_left 1
      · (intro w' hSw; (try dsimp only at hSw); go_simp; try with_reducible rfl)
      try simp only [Act.put, List.setIfInBounds_toArray, List.set_cons_zero, List.set_cons_succ, List.getElem_toArray, List.getElem_cons_succ, List.getElem_cons_zero]
      refine wpAnyH_ready (rs := [6]) (by kernel_rfl) (by simp) (AllReadyH.cons rfl (fun K hK => ?_) AllReadyH.nil)
      go_simp
      (refine (below_acc (n : Int) kD (Only.refl _ _) (by omega) (by omega)).mono ?_; rintro e w5 ⟨x5, rfl, hx5, k5, o5⟩; obtain ⟨X, rfl⟩ := Int.eq_ofNat_of_zero_le hx5.1; obtain ⟨g, z, rfl, hg1, hg2, hg3⟩ := HC.out X (by omega); have hgz : w5.cell? ⟨g, X, none⟩ = some (.int .i64 z) := (o5.cell (by show g < _; exact Nat.lt_of_lt_of_le hg1 o2.size) (by exact hg2)).trans ((o2.cell (by exact hg1) (by exact hg2)).trans hg3); have hX1 : (X : Int) < (n : Int) := hx5.2; have hS := HS.out _ ((Only.of_below (Below.refl _ _).drew).trans o5))
      refine hK.out _ _ (by assumption) (fun _ => ?_)
      try simp only [Act.put, List.setIfInBounds_toArray, List.set_cons_zero, List.set_cons_succ, List.getElem_toArray, List.getElem_cons_succ, List.getElem_cons_zero]
      refine wpAnyH_take (i := 7) (v := ?_) rfl (by kernel_rfl) (by kernel_rfl) (by kernel_rfl) (fun _ _ _ h => h) (Or.inl ⟨by rfl, ?_⟩) (by assumption) ?_
      rotate_left 1
      · (intro w' hSw; (try dsimp only at hSw); go_simp; try with_reducible rfl)
      try simp only [Act.put, List.setIfInBounds_toArray, List.set_cons_zero, List.set_cons_succ, List.getElem_toArray, List.getElem_cons_succ, List.getElem_cons_zero]
      refine wpAnyH_ready (rs := [8]) (by kernel_rfl) (by simp) (AllReadyH.cons rfl (fun K hK => ?_) AllReadyH.nil)
      go_simp
      refine hK.out _ _ (by assumption) (fun _ => ?_)
      try simp only [Act.put, List.setIfInBounds_toArray, List.set_cons_zero, List.set_cons_succ, List.getElem_toArray, List.getElem_cons_succ, List.getElem_cons_zero]
      refine wpAnyH_take (i := 9) (v := ?_) rfl (by kernel_rfl) (by kernel_rfl) (by kernel_rfl) (fun _ _ _ h => h) (Or.inl ⟨by rfl, ?_⟩) (by assumption) ?_
      rotate_left 1
      · (intro w' hSw; (try dsimp only at hSw); go_simp; try with_reducible rfl)
      try simp only [Act.put, List.setIfInBounds_toArray, List.set_cons_zero, List.set_cons_succ, List.getElem_toArray, List.getElem_cons_succ, List.getElem_cons_zero]
      refine wpAnyH_done (by kernel_rfl) ?_ _
      go_wp2
      go_ret
      first
        | exact ⟨_, rfl, k5, (oo.trans (Only.of_below (Below.refl _ _).drew)).trans o5⟩
        | exact ⟨⟨_, rfl⟩, k5, (oo.trans (Only.of_below (Below.refl _ _).drew)).trans o5⟩
  · have hn' : ¬ (0 : Int) < (n : Int) := by omega
    have hnd : decide ((0 : Int) < (n : Int)) = false := decide_eq_false hn'
    have oo := o0
    go_wp2_with (first
      | (go_at_call 68; refine (once_acc _ k0 (Only.refl _ _) (by omega) (by omega)).mono ?_; rintro e w3 ⟨f3, rfl, k3, o3⟩; have oo := oo.trans o3; cases f3)
      | (go_at_call_of 70 (Value.int IntKind.i64 3); refine (below_acc 3 (k3.alloc _) (Only.refl _ _) (by omega) (by omega)).mono ?_; rintro e w4 ⟨x4, rfl, hx4, k4, o4⟩; obtain ⟨X, rfl⟩ := Int.eq_ofNat_of_zero_le hx4.1; obtain ⟨y, hy⟩ := idTab_in X (by omega); have hcell := (table_cell k3.hi o4 X).trans hy; clear hy; have hX3 : (X : Int) < 3 := (by omega))
      | (go_at_call_of 70 (Value.int IntKind.i64 14); refine (below_acc 14 k3 (Only.refl _ _) (by omega) (by omega)).mono ?_; rintro e w4 ⟨x4, rfl, hx4, k4, o4⟩))
    · go_ret
      exact ⟨_, rfl, k4, oo.trans o4⟩
    · go_ret
      exact ⟨_, rfl, k4, (oo.trans (Only.of_below (new_below _ _))).trans o4⟩
/-- While arguments are drawn: the result's block, the cursor behind it, the Place in block q. -/
structure E13 (B : Nat) (a0 : Option Addr) (len cap b : Nat) (w wr : World) (q : Nat) (wd fl : Int) (a : Option Addr) (n c : Nat) (ys : List Int) : Prop where
  cur : Cur B a0 len cap b wr
  bel : Below w.heap.size w wr
  ob : w.heap.size < b
  oq : b < q
  res : Qc wr w.heap.size 0 0 (.slice none 0 0)
  rf : ∀ o : Nat, wr.frozen? ⟨w.heap.size, o, none⟩ = false
  plc : Qc wr q wd fl (.slice a n c)
  own : ∀ g, (Value.slice a n c).ownBlock = some g → b < g
  fv : IV wr w.heap.size (.slice a n c) ys
  le : ys.length ≤ 51
section
variable {B : Nat} {a0 : Option Addr} {len cap b : Nat} {w wr : World} {q : Nat} {wd fl : Int} {a : Option Addr} {n c : Nat} {ys : List Int} 
theorem E13.draw (d : E13 B a0 len cap b w wr q wd fl a n c ys) {w2 : World} (o : Only b wr w2) (k : Cur B a0 len cap b w2) : E13 B a0 len cap b w w2 q wd fl a n c ys :=
  have h1 := d.ob; have h2 := d.oq; have h3 := d.plc.z; have h4 := d.res.z
  ⟨k, d.bel.trans (o.below (by omega) (by omega)), d.ob, d.oq, d.res.onlyO (OnlyO.of_only o) (fun e => by injection e with e; omega), fun i => (o.frozen (by exact h4) (by show w.heap.size ≠ b; omega)).trans (d.rf i), d.plc.onlyO (OnlyO.of_only o) (fun e => by injection e with e; omega), d.own, d.fv.onlyO (OnlyO.of_only o) (fun g hg e => by have := d.own g hg; injection e with e; omega), d.le⟩
theorem E13.next (d : E13 B a0 len cap b w wr q wd fl a n c ys) {w2 : World} (h : Below wr.heap.size wr w2) : E13 B a0 len cap b w w2 q wd fl a n c ys := d.draw (Only.of_below h) (d.cur.mono h)
theorem e13_new {w1 w2 : World} {t u : TypeId} (hb : w.heap.size + 1 ≤ b) (h1 : Below (w.alloc (.cells #[.int .i64 0, .int .i64 0, .slice none 0 0] t)).heap.size (w.alloc (.cells #[.int .i64 0, .int .i64 0, .slice none 0 0] t)) w1) (k1 : Cur B a0 len cap b w1) (o2 : Only b w1 w2) (k2 : Cur B a0 len cap b w2) (f : IV w2 w1.heap.size (.slice a n c) ys) (le : ys.length ≤ 51) :
    E13 B a0 len cap b w (w2.alloc (.cells #[.int .i64 wd, .int .i64 fl, .slice a n c] u)) w2.heap.size wd fl a n c ys := by
  have z1 : w.heap.size + 1 ≤ w1.heap.size := by have := h1.size; simpa using this
  have z2 := o2.size
  have zb := k1.hi
  have hn := new_below w2 (.cells #[.int .i64 wd, .int .i64 fl, .slice a n c] u)
  have r1 : Qc w1 w.heap.size 0 0 (.slice none 0 0) := (qc_new w 0 0 (.slice none 0 0) t).next h1
  have r2 := r1.onlyO (OnlyO.of_only o2) (fun e => by injection e with e; omega)
  refine ⟨k2.mono hn, ((below_step (w := w) (new_below w _) h1).trans (o2.below (by omega) (by omega))).trans (hn.mono (by omega)), by omega, by omega, r2.next hn, ?_, qc_new w2 wd fl _ u, ?_, (f.lower (by omega)).next hn, le⟩
  · intro o
    exact (hn.frozen (by show w.heap.size < _; omega)).trans ((o2.frozen (by show w.heap.size < _; omega) (by show w.heap.size ≠ b; omega)).trans ((h1.frozen (by show w.heap.size < _; simp)).trans (by go_simp)))
  · intro g hg
    have := f.own hg
    omega
theorem e13_out (d : E13 B a0 len cap b w wr q wd fl a n c ys) : ∃ y, y = ((wr.setCell ⟨w.heap.size, 0, none⟩ (.int .i64 wd)).setCell ⟨w.heap.size, 1, none⟩ (.int .i64 fl)).setCell ⟨w.heap.size, 2, none⟩ (.slice a n c) ∧ (∀ j v, [.int .i64 wd, .int .i64 fl, .slice a n c][j]? = some v → y.cell? ⟨w.heap.size, j, none⟩ = some v) ∧ IV y w.heap.size (.slice a n c) ys ∧ Below w.heap.size w y ∧ Qc y q wd fl (.slice a n c) := by
  have h1 := d.ob
  have h2 := d.oq
  obtain ⟨y, ey, cs, fz, zy, hbel, hon⟩ := over3 (.int .i64 wd) (.int .i64 fl) (.slice a n c) (w := wr) (g := w.heap.size) d.res.c0 d.res.c1 d.res.c2
  exact ⟨y, ey, cs, d.fv.onlyO (OnlyO.of_only hon) (fun g hg e => by have := d.own g hg; injection e with e; omega), d.bel.trans (hbel _ (Nat.le_refl _)), d.plc.onlyO (OnlyO.of_only hon) (fun e => by injection e with e; omega)⟩
theorem E13.id (d : E13 B a0 len cap b w wr q wd fl a n c ys) : Calls Try.prog 44 #[.pointer (some ⟨b, 0, none⟩), .agg #[.int .i64 wd, .int .i64 fl, .slice a n c]] wr fun e w' => ∃ x : Int, e = .returned (.int .i64 x) ∧ Cur B a0 len cap b w' ∧ Only b wr w' := drawId_acc d.cur d.fv (fun g hg => by have := d.own g hg; omega) d.le
end
section
variable {P : Program}
theorem results_c2 {fn : Func} {p u1 u2 : Tmp} {ty : TypeId} (h : fn.results = #[.cell p ty, .tmp u1, .tmp u2]) (tmps : Array Value) (w : World) (g : Nat) (cs : List Value) {d : TypeDesc}
    (hp : tmps.getD p undef = .pointer (some ⟨g, 0, none⟩)) (hc : ∀ j v, cs[j]? = some v → w.cell? ⟨g, j, none⟩ = some v)
    (hu : P.underlying ty = some d) (hd : (match d with | .struct _ | .array _ _ => true | _ => false) = true) (hi : (P.info? ty).map (·.size) = some cs.length) :
    (results fn tmps).run P w = .ok (.tuple #[.agg cs.toArray, tmps.getD u1 undef, tmps.getD u2 undef]) w := by
  have hp' : tmps[p]?.getD undef = .pointer (some ⟨g, 0, none⟩) := by simpa using hp
  have hl := loadVar_cells (P := P) w g 0 ty cs (fun j v hv => by rw [Nat.zero_add]; exact hc j v hv) hu hd hi
  simp [results, h, hp', asAddr, hl, Sem.run_bind, Result.andThen]
end
def DJPost (w : World) (e : Ending) (w' : World) : Prop := ∃ (wd fl : Int) (a : Option Addr) (n c : Nat) (ys : List Int) (x : Int), e = .returned (.tuple #[.agg #[.int .i64 wd, .int .i64 fl, .slice a n c], .int .i64 x]) ∧ IV w' w.heap.size (.slice a n c) ys ∧ ys.length ≤ 51 ∧ Below w.heap.size w w'
def DQPost (w : World) (e : Ending) (w' : World) : Prop := ∃ (wd fl : Int) (a : Option Addr) (n c : Nat) (ys : List Int) (x z : Int), e = .returned (.tuple #[.agg #[.int .i64 wd, .int .i64 fl, .slice a n c], .int .i64 x, .int .i64 z]) ∧ IV w' w.heap.size (.slice a n c) ys ∧ ys.length ≤ 51 ∧ Below w.heap.size w w'
def DFPost (w : World) (e : Ending) (w' : World) : Prop := ∃ (wd fl : Int) (a : Option Addr) (n c : Nat) (ys : List Int) (x : Int) (z : Bool), e = .returned (.tuple #[.agg #[.int .i64 wd, .int .i64 fl, .slice a n c], .int .i64 x, .bool z]) ∧ IV w' w.heap.size (.slice a n c) ys ∧ ys.length ≤ 51 ∧ Below w.heap.size w w'
set_option maxHeartbeats 8000000 in
theorem drawJoin_any {B : Nat} {a0 : Option Addr} {len : Nat} (cap : Nat) {w : World} (hs : len ≤ 4096) (row : Row B a0 len w) (hB : B ≤ w.heap.size) :
    Calls Try.prog 15 #[.slice a0 len cap] w (DJPost w) := by
  go_enter Try.func15, Try.ntmps15
  go_upto_region 3 with (first
    | (go_at_call 32; refine (new_any cap hs (row.mono ((Below.refl B w).alloc hB _)) (by simp; omega)).mono ?_; rintro e w1 ⟨b, rfl, hb, k1, hb1⟩)
    | (go_at_call 43; refine (l13Draw_acc k1).mono ?_; rintro e w2 ⟨wd, fl, a, n, c, ys, rfl, fy, hle, k2, o2⟩))
  have d := e13_new (u := 37) (wd := wd) (fl := fl) (by simpa using hb) hb1 k1 o2 k2 fy hle
  obtain ⟨x4, hx4⟩ : ∃ y, y = w2.alloc (.cells #[.int .i64 wd, .int .i64 fl, .slice a n c] 37) := ⟨_, rfl⟩
  obtain ⟨q, hq⟩ : ∃ g, w2.heap.size = g := ⟨_, rfl⟩
  rw [← hx4, hq] at d
  rw [← hx4]
  simp only [hq]
  have D : Hid (E13 B a0 len cap b w x4 q wd fl a n c ys) := d
  clear d hx4 hq k1 k2 o2 fy hle hb1 hb
  have HS : Hid (∀ w', E13 B a0 len cap b w w' q wd fl a n c ys → (fun w' => w'.cell? ⟨q, 0, none⟩ = some (.int .i64 wd) ∧ w'.cell? ⟨q, 1, none⟩ = some (.int .i64 fl) ∧ w'.cell? ⟨q, 2, none⟩ = some (.slice a n c)) w') := fun w' d => ⟨d.plc.c0, d.plc.c1, d.plc.c2⟩
  have DR : Hid (E13 B a0 len cap b w x4.drew q wd fl a n c ys) := D.out.next (Below.refl _ _).drew
  have hS := HS.out _ DR.out
  refine wp_region_held_drew (S := fun w' => w'.cell? ⟨q, 0, none⟩ = some (.int .i64 wd) ∧ w'.cell? ⟨q, 1, none⟩ = some (.int .i64 fl) ∧ w'.cell? ⟨q, 2, none⟩ = some (.slice a n c)) (by kernel_rfl) hS (fun hS => ?_)
  refine wpAnyH_take (i := 0) (v := ?_) rfl (by kernel_rfl) (by kernel_rfl) (by kernel_rfl) (fun _ _ _ h => h) (Or.inl ⟨by rfl, ?_⟩) (by assumption) ?_
  rotate_left 1
  · (intro w' hSw; (try dsimp only at hSw); go_simp; try with_reducible rfl)
  try simp only [Act.put, List.setIfInBounds_toArray, List.set_cons_zero, List.set_cons_succ, List.getElem_toArray, List.getElem_cons_succ, List.getElem_cons_zero]
  refine wpAnyH_take (i := 1) (v := ?_) rfl (by kernel_rfl) (by kernel_rfl) (by kernel_rfl) (fun _ _ _ h => h) (Or.inl ⟨by rfl, ?_⟩) (by assumption) ?_
  rotate_left 1
  · (intro w' hSw; (try dsimp only at hSw); go_simp; try with_reducible rfl)
  try simp only [Act.put, List.setIfInBounds_toArray, List.set_cons_zero, List.set_cons_succ, List.getElem_toArray, List.getElem_cons_succ, List.getElem_cons_zero]
  refine wpAnyH_take (i := 2) (v := ?_) rfl (by kernel_rfl) (by kernel_rfl) (by kernel_rfl) (fun _ _ _ h => h) (Or.inl ⟨by rfl, ?_⟩) (by assumption) ?_
  rotate_left 1
  · (intro w' hSw; (try dsimp only at hSw); go_simp; try with_reducible rfl)
  try simp only [Act.put, List.setIfInBounds_toArray, List.set_cons_zero, List.set_cons_succ, List.getElem_toArray, List.getElem_cons_succ, List.getElem_cons_zero]
  refine wpAnyH_ready (rs := [3]) (by kernel_rfl) (by simp) (AllReadyH.cons rfl (fun K hK => ?_) AllReadyH.nil)
  go_simp
  (refine (DR.out.id).mono ?_; rintro e v9 ⟨x9, rfl, kk, oo⟩; have DR : Hid (E13 B a0 len cap b w v9 q wd fl a n c ys) := DR.out.draw oo kk; have hS := HS.out _ DR.out)
  refine hK.out _ _ (by assumption) (fun _ => ?_)
  try simp only [Act.put, List.setIfInBounds_toArray, List.set_cons_zero, List.set_cons_succ, List.getElem_toArray, List.getElem_cons_succ, List.getElem_cons_zero]
  have r0 := DR.out.res.c0
  have r1 := DR.out.res.c1
  have r2 := DR.out.res.c2
  have rz := DR.out.rf
  refine wpAnyH_ready (rs := [4]) (by kernel_rfl) (by simp) (AllReadyH.cons rfl (fun K hK => ?_) AllReadyH.nil)
  go_simp
  obtain ⟨y9, ey, cs, fy, hby, Q9⟩ := e13_out DR.out
  rw [← ey]
  clear ey
  refine hK.out _ _ ⟨Q9.c0, Q9.c1, Q9.c2⟩ (fun hS => ?_)
  try simp only [Act.put, List.setIfInBounds_toArray, List.set_cons_zero, List.set_cons_succ, List.getElem_toArray, List.getElem_cons_succ, List.getElem_cons_zero]
  refine wpAnyH_take (i := 5) (v := ?_) rfl (by kernel_rfl) (by kernel_rfl) (by kernel_rfl) (fun _ _ _ h => h) (Or.inl ⟨by rfl, ?_⟩) (by assumption) ?_
  rotate_left 1
  · (intro w' hSw; (try dsimp only at hSw); go_simp; try with_reducible rfl)
  try simp only [Act.put, List.setIfInBounds_toArray, List.set_cons_zero, List.set_cons_succ, List.getElem_toArray, List.getElem_cons_succ, List.getElem_cons_zero]
  refine wpAnyH_done (by kernel_rfl) ?_ _
  go_wp2
  refine bodyPost_ret (results_two rfl _ _ _ [.int .i64 wd, .int .i64 fl, .slice a n c] rfl cs Try.underlying37 rfl (by kernel_rfl)) rfl ?_
  exact ⟨wd, fl, a, n, c, ys, _, rfl, fy, DR.out.le, hby⟩
set_option maxHeartbeats 8000000 in
theorem drawRoom_any {B : Nat} {a0 : Option Addr} {len : Nat} (cap : Nat) {w : World} (hs : len ≤ 4096) (row : Row B a0 len w) (hB : B ≤ w.heap.size) :
    Calls Try.prog 62 #[.slice a0 len cap] w (DJPost w) := by
  go_enter Try.func62, Try.ntmps62
  go_upto_region 3 with (first
    | (go_at_call 32; refine (new_any cap hs (row.mono ((Below.refl B w).alloc hB _)) (by simp; omega)).mono ?_; rintro e w1 ⟨b, rfl, hb, k1, hb1⟩)
    | (go_at_call 43; refine (l13Draw_acc k1).mono ?_; rintro e w2 ⟨wd, fl, a, n, c, ys, rfl, fy, hle, k2, o2⟩))
  have d := e13_new (u := 37) (wd := wd) (fl := fl) (by simpa using hb) hb1 k1 o2 k2 fy hle
  obtain ⟨x4, hx4⟩ : ∃ y, y = w2.alloc (.cells #[.int .i64 wd, .int .i64 fl, .slice a n c] 37) := ⟨_, rfl⟩
  obtain ⟨q, hq⟩ : ∃ g, w2.heap.size = g := ⟨_, rfl⟩
  rw [← hx4, hq] at d
  rw [← hx4]
  simp only [hq]
  have D : Hid (E13 B a0 len cap b w x4 q wd fl a n c ys) := d
  clear d hx4 hq k1 k2 o2 fy hle hb1 hb
  have HS : Hid (∀ w', E13 B a0 len cap b w w' q wd fl a n c ys → (fun w' => w'.cell? ⟨q, 0, none⟩ = some (.int .i64 wd) ∧ w'.cell? ⟨q, 1, none⟩ = some (.int .i64 fl) ∧ w'.cell? ⟨q, 2, none⟩ = some (.slice a n c)) w') := fun w' d => ⟨d.plc.c0, d.plc.c1, d.plc.c2⟩
  have DR : Hid (E13 B a0 len cap b w x4.drew q wd fl a n c ys) := D.out.next (Below.refl _ _).drew
  have hS := HS.out _ DR.out
  refine wp_region_held_drew (S := fun w' => w'.cell? ⟨q, 0, none⟩ = some (.int .i64 wd) ∧ w'.cell? ⟨q, 1, none⟩ = some (.int .i64 fl) ∧ w'.cell? ⟨q, 2, none⟩ = some (.slice a n c)) (by kernel_rfl) hS (fun hS => ?_)
  refine wpAnyH_take (i := 0) (v := ?_) rfl (by kernel_rfl) (by kernel_rfl) (by kernel_rfl) (fun _ _ _ h => h) (Or.inl ⟨by rfl, ?_⟩) (by assumption) ?_
  rotate_left 1
  · (intro w' hSw; (try dsimp only at hSw); go_simp; try with_reducible rfl)
  try simp only [Act.put, List.setIfInBounds_toArray, List.set_cons_zero, List.set_cons_succ, List.getElem_toArray, List.getElem_cons_succ, List.getElem_cons_zero]
  refine wpAnyH_take (i := 1) (v := ?_) rfl (by kernel_rfl) (by kernel_rfl) (by kernel_rfl) (fun _ _ _ h => h) (Or.inl ⟨by rfl, ?_⟩) (by assumption) ?_
  rotate_left 1
  · (intro w' hSw; (try dsimp only at hSw); go_simp; try with_reducible rfl)
  try simp only [Act.put, List.setIfInBounds_toArray, List.set_cons_zero, List.set_cons_succ, List.getElem_toArray, List.getElem_cons_succ, List.getElem_cons_zero]
  refine wpAnyH_ready (rs := [2]) (by kernel_rfl) (by simp) (AllReadyH.cons rfl (fun K hK => ?_) AllReadyH.nil)
  go_simp
  (refine (drawSize8_acc DR.out.cur (Only.refl _ _)).mono ?_; rintro e v9 ⟨x9, rfl, kk, oo⟩; have DR : Hid (E13 B a0 len cap b w v9 q wd fl a n c ys) := DR.out.draw oo kk; have hS := HS.out _ DR.out)
  refine hK.out _ _ (by assumption) (fun _ => ?_)
  try simp only [Act.put, List.setIfInBounds_toArray, List.set_cons_zero, List.set_cons_succ, List.getElem_toArray, List.getElem_cons_succ, List.getElem_cons_zero]
  have r0 := DR.out.res.c0
  have r1 := DR.out.res.c1
  have r2 := DR.out.res.c2
  have rz := DR.out.rf
  refine wpAnyH_ready (rs := [3]) (by kernel_rfl) (by simp) (AllReadyH.cons rfl (fun K hK => ?_) AllReadyH.nil)
  go_simp
  obtain ⟨y9, ey, cs, fy, hby, Q9⟩ := e13_out DR.out
  rw [← ey]
  clear ey
  refine hK.out _ _ ⟨Q9.c0, Q9.c1, Q9.c2⟩ (fun hS => ?_)
  try simp only [Act.put, List.setIfInBounds_toArray, List.set_cons_zero, List.set_cons_succ, List.getElem_toArray, List.getElem_cons_succ, List.getElem_cons_zero]
  refine wpAnyH_take (i := 4) (v := ?_) rfl (by kernel_rfl) (by kernel_rfl) (by kernel_rfl) (fun _ _ _ h => h) (Or.inl ⟨by rfl, ?_⟩) (by assumption) ?_
  rotate_left 1
  · (intro w' hSw; (try dsimp only at hSw); go_simp; try with_reducible rfl)
  try simp only [Act.put, List.setIfInBounds_toArray, List.set_cons_zero, List.set_cons_succ, List.getElem_toArray, List.getElem_cons_succ, List.getElem_cons_zero]
  refine wpAnyH_done (by kernel_rfl) ?_ _
  go_wp2
  refine bodyPost_ret (results_two rfl _ _ _ [.int .i64 wd, .int .i64 fl, .slice a n c] rfl cs Try.underlying37 rfl (by kernel_rfl)) rfl ?_
  exact ⟨wd, fl, a, n, c, ys, _, rfl, fy, DR.out.le, hby⟩
set_option maxHeartbeats 8000000 in
theorem drawQuit_any {B : Nat} {a0 : Option Addr} {len : Nat} (cap : Nat) {w : World} (hs : len ≤ 4096) (row : Row B a0 len w) (hB : B ≤ w.heap.size) :
    Calls Try.prog 19 #[.slice a0 len cap] w (DQPost w) := by
  go_enter Try.func19, Try.ntmps19
  go_upto_region 3 with (first
    | (go_at_call 32; refine (new_any cap hs (row.mono ((Below.refl B w).alloc hB _)) (by simp; omega)).mono ?_; rintro e w1 ⟨b, rfl, hb, k1, hb1⟩)
    | (go_at_call 43; refine (l13Draw_acc k1).mono ?_; rintro e w2 ⟨wd, fl, a, n, c, ys, rfl, fy, hle, k2, o2⟩))
  have d := e13_new (u := 37) (wd := wd) (fl := fl) (by simpa using hb) hb1 k1 o2 k2 fy hle
  obtain ⟨x4, hx4⟩ : ∃ y, y = w2.alloc (.cells #[.int .i64 wd, .int .i64 fl, .slice a n c] 37) := ⟨_, rfl⟩
  obtain ⟨q, hq⟩ : ∃ g, w2.heap.size = g := ⟨_, rfl⟩
  rw [← hx4, hq] at d
  rw [← hx4]
  simp only [hq]
  have D : Hid (E13 B a0 len cap b w x4 q wd fl a n c ys) := d
  clear d hx4 hq k1 k2 o2 fy hle hb1 hb
  have HS : Hid (∀ w', E13 B a0 len cap b w w' q wd fl a n c ys → (fun w' => w'.cell? ⟨q, 0, none⟩ = some (.int .i64 wd) ∧ w'.cell? ⟨q, 1, none⟩ = some (.int .i64 fl) ∧ w'.cell? ⟨q, 2, none⟩ = some (.slice a n c)) w') := fun w' d => ⟨d.plc.c0, d.plc.c1, d.plc.c2⟩
  have p0 := D.out.plc.c0
  have p1 := D.out.plc.c1
  have p2 := D.out.plc.c2
  go_upto_region 4 with (first
    | (go_at_call 44; refine (D.out.id).mono ?_; rintro e v5 ⟨x5, rfl, kk, oo⟩; have D : Hid (E13 B a0 len cap b w v5 q wd fl a n c ys) := D.out.draw oo kk))
  have DR : Hid (E13 B a0 len cap b w v5.drew q wd fl a n c ys) := D.out.next (Below.refl _ _).drew
  have hS := HS.out _ DR.out
  refine wp_region_held_drew (S := fun w' => w'.cell? ⟨q, 0, none⟩ = some (.int .i64 wd) ∧ w'.cell? ⟨q, 1, none⟩ = some (.int .i64 fl) ∧ w'.cell? ⟨q, 2, none⟩ = some (.slice a n c)) (by kernel_rfl) hS (fun hS => ?_)
  refine wpAnyH_take (i := 0) (v := ?_) rfl (by kernel_rfl) (by kernel_rfl) (by kernel_rfl) (fun _ _ _ h => h) (Or.inl ⟨by rfl, ?_⟩) (by assumption) ?_
  rotate_left 1
  · (intro w' hSw; (try dsimp only at hSw); go_simp; try with_reducible rfl)
  try simp only [Act.put, List.setIfInBounds_toArray, List.set_cons_zero, List.set_cons_succ, List.getElem_toArray, List.getElem_cons_succ, List.getElem_cons_zero]
  refine wpAnyH_take (i := 1) (v := ?_) rfl (by kernel_rfl) (by kernel_rfl) (by kernel_rfl) (fun _ _ _ h => h) (Or.inl ⟨by rfl, ?_⟩) (by assumption) ?_
  rotate_left 1
  · (intro w' hSw; (try dsimp only at hSw); go_simp; try with_reducible rfl)
  try simp only [Act.put, List.setIfInBounds_toArray, List.set_cons_zero, List.set_cons_succ, List.getElem_toArray, List.getElem_cons_succ, List.getElem_cons_zero]
  refine wpAnyH_take (i := 2) (v := ?_) rfl (by kernel_rfl) (by kernel_rfl) (by kernel_rfl) (fun _ _ _ h => h) (Or.inl ⟨by rfl, ?_⟩) (by assumption) ?_
  rotate_left 1
  · (intro w' hSw; (try dsimp only at hSw); go_simp; try with_reducible rfl)
  try simp only [Act.put, List.setIfInBounds_toArray, List.set_cons_zero, List.set_cons_succ, List.getElem_toArray, List.getElem_cons_succ, List.getElem_cons_zero]
  refine wpAnyH_ready (rs := [3]) (by kernel_rfl) (by simp) (AllReadyH.cons rfl (fun K hK => ?_) AllReadyH.nil)
  go_simp
  (refine (drawWindow_acc DR.out.cur (Only.refl _ _)).mono ?_; rintro e v9 ⟨x9, rfl, _, kk, oo⟩; have DR : Hid (E13 B a0 len cap b w v9 q wd fl a n c ys) := DR.out.draw oo kk; have hS := HS.out _ DR.out)
  refine hK.out _ _ (by assumption) (fun _ => ?_)
  try simp only [Act.put, List.setIfInBounds_toArray, List.set_cons_zero, List.set_cons_succ, List.getElem_toArray, List.getElem_cons_succ, List.getElem_cons_zero]
  have r0 := DR.out.res.c0
  have r1 := DR.out.res.c1
  have r2 := DR.out.res.c2
  have rz := DR.out.rf
  refine wpAnyH_ready (rs := [4]) (by kernel_rfl) (by simp) (AllReadyH.cons rfl (fun K hK => ?_) AllReadyH.nil)
  go_simp
  obtain ⟨y9, ey, cs, fy, hby, Q9⟩ := e13_out DR.out
  rw [← ey]
  clear ey
  refine hK.out _ _ ⟨Q9.c0, Q9.c1, Q9.c2⟩ (fun hS => ?_)
  try simp only [Act.put, List.setIfInBounds_toArray, List.set_cons_zero, List.set_cons_succ, List.getElem_toArray, List.getElem_cons_succ, List.getElem_cons_zero]
  refine wpAnyH_take (i := 5) (v := ?_) rfl (by kernel_rfl) (by kernel_rfl) (by kernel_rfl) (fun _ _ _ h => h) (Or.inl ⟨by rfl, ?_⟩) (by assumption) ?_
  rotate_left 1
  · (intro w' hSw; (try dsimp only at hSw); go_simp; try with_reducible rfl)
  try simp only [Act.put, List.setIfInBounds_toArray, List.set_cons_zero, List.set_cons_succ, List.getElem_toArray, List.getElem_cons_succ, List.getElem_cons_zero]
  refine wpAnyH_take (i := 6) (v := ?_) rfl (by kernel_rfl) (by kernel_rfl) (by kernel_rfl) (fun _ _ _ h => h) (Or.inl ⟨by rfl, ?_⟩) (by assumption) ?_
  rotate_left 1
  · (intro w' hSw; (try dsimp only at hSw); go_simp; try with_reducible rfl)
  try simp only [Act.put, List.setIfInBounds_toArray, List.set_cons_zero, List.set_cons_succ, List.getElem_toArray, List.getElem_cons_succ, List.getElem_cons_zero]
  refine wpAnyH_done (by kernel_rfl) ?_ _
  go_wp2
  refine bodyPost_ret (results_c2 rfl _ _ _ [.int .i64 wd, .int .i64 fl, .slice a n c] rfl cs Try.underlying37 rfl (by kernel_rfl)) rfl ?_
  exact ⟨wd, fl, a, n, c, ys, _, _, rfl, fy, DR.out.le, hby⟩
set_option maxHeartbeats 8000000 in
theorem drawFree_any {B : Nat} {a0 : Option Addr} {len : Nat} (cap : Nat) {w : World} (hs : len ≤ 4096) (row : Row B a0 len w) (hB : B ≤ w.heap.size) :
    Calls Try.prog 28 #[.slice a0 len cap] w (DFPost w) := by
  go_enter Try.func28, Try.ntmps28
  go_upto_region 3 with (first
    | (go_at_call 32; refine (new_any cap hs (row.mono ((Below.refl B w).alloc hB _)) (by simp; omega)).mono ?_; rintro e w1 ⟨b, rfl, hb, k1, hb1⟩)
    | (go_at_call 43; refine (l13Draw_acc k1).mono ?_; rintro e w2 ⟨wd, fl, a, n, c, ys, rfl, fy, hle, k2, o2⟩))
  have d := e13_new (u := 37) (wd := wd) (fl := fl) (by simpa using hb) hb1 k1 o2 k2 fy hle
  obtain ⟨x4, hx4⟩ : ∃ y, y = w2.alloc (.cells #[.int .i64 wd, .int .i64 fl, .slice a n c] 37) := ⟨_, rfl⟩
  obtain ⟨q, hq⟩ : ∃ g, w2.heap.size = g := ⟨_, rfl⟩
  rw [← hx4, hq] at d
  rw [← hx4]
  simp only [hq]
  have D : Hid (E13 B a0 len cap b w x4 q wd fl a n c ys) := d
  clear d hx4 hq k1 k2 o2 fy hle hb1 hb
  have HS : Hid (∀ w', E13 B a0 len cap b w w' q wd fl a n c ys → (fun w' => w'.cell? ⟨q, 0, none⟩ = some (.int .i64 wd) ∧ w'.cell? ⟨q, 1, none⟩ = some (.int .i64 fl) ∧ w'.cell? ⟨q, 2, none⟩ = some (.slice a n c)) w') := fun w' d => ⟨d.plc.c0, d.plc.c1, d.plc.c2⟩
  go_upto_region 4 with (first
    | (go_at_call 67; refine (ack13_acc D.out.cur (Only.refl _ _)).mono ?_; rintro e v5 ⟨x5, rfl, kk, oo⟩; have D : Hid (E13 B a0 len cap b w v5 q wd fl a n c ys) := D.out.draw oo kk))
  have DR : Hid (E13 B a0 len cap b w v5.drew q wd fl a n c ys) := D.out.next (Below.refl _ _).drew
  have hS := HS.out _ DR.out
  refine wp_region_held_drew (S := fun w' => w'.cell? ⟨q, 0, none⟩ = some (.int .i64 wd) ∧ w'.cell? ⟨q, 1, none⟩ = some (.int .i64 fl) ∧ w'.cell? ⟨q, 2, none⟩ = some (.slice a n c)) (by kernel_rfl) hS (fun hS => ?_)
  refine wpAnyH_take (i := 0) (v := ?_) rfl (by kernel_rfl) (by kernel_rfl) (by kernel_rfl) (fun _ _ _ h => h) (Or.inl ⟨by rfl, ?_⟩) (by assumption) ?_
  rotate_left 1
  · (intro w' hSw; (try dsimp only at hSw); go_simp; try with_reducible rfl)
  try simp only [Act.put, List.setIfInBounds_toArray, List.set_cons_zero, List.set_cons_succ, List.getElem_toArray, List.getElem_cons_succ, List.getElem_cons_zero]
  refine wpAnyH_take (i := 1) (v := ?_) rfl (by kernel_rfl) (by kernel_rfl) (by kernel_rfl) (fun _ _ _ h => h) (Or.inl ⟨by rfl, ?_⟩) (by assumption) ?_
  rotate_left 1
  · (intro w' hSw; (try dsimp only at hSw); go_simp; try with_reducible rfl)
  try simp only [Act.put, List.setIfInBounds_toArray, List.set_cons_zero, List.set_cons_succ, List.getElem_toArray, List.getElem_cons_succ, List.getElem_cons_zero]
  refine wpAnyH_take (i := 2) (v := ?_) rfl (by kernel_rfl) (by kernel_rfl) (by kernel_rfl) (fun _ _ _ h => h) (Or.inl ⟨by rfl, ?_⟩) (by assumption) ?_
  rotate_left 1
  · (intro w' hSw; (try dsimp only at hSw); go_simp; try with_reducible rfl)
  try simp only [Act.put, List.setIfInBounds_toArray, List.set_cons_zero, List.set_cons_succ, List.getElem_toArray, List.getElem_cons_succ, List.getElem_cons_zero]
  refine wpAnyH_ready (rs := [3]) (by kernel_rfl) (by simp) (AllReadyH.cons rfl (fun K hK => ?_) AllReadyH.nil)
  go_simp
  (refine (once_acc 2 DR.out.cur (Only.refl _ _) (by omega) (by omega)).mono ?_; rintro e v9 ⟨x9, rfl, kk, oo⟩; have DR : Hid (E13 B a0 len cap b w v9 q wd fl a n c ys) := DR.out.draw oo kk; have hS := HS.out _ DR.out)
  refine hK.out _ _ (by assumption) (fun _ => ?_)
  try simp only [Act.put, List.setIfInBounds_toArray, List.set_cons_zero, List.set_cons_succ, List.getElem_toArray, List.getElem_cons_succ, List.getElem_cons_zero]
  have r0 := DR.out.res.c0
  have r1 := DR.out.res.c1
  have r2 := DR.out.res.c2
  have rz := DR.out.rf
  refine wpAnyH_ready (rs := [4]) (by kernel_rfl) (by simp) (AllReadyH.cons rfl (fun K hK => ?_) AllReadyH.nil)
  go_simp
  obtain ⟨y9, ey, cs, fy, hby, Q9⟩ := e13_out DR.out
  rw [← ey]
  clear ey
  refine hK.out _ _ ⟨Q9.c0, Q9.c1, Q9.c2⟩ (fun hS => ?_)
  try simp only [Act.put, List.setIfInBounds_toArray, List.set_cons_zero, List.set_cons_succ, List.getElem_toArray, List.getElem_cons_succ, List.getElem_cons_zero]
  refine wpAnyH_take (i := 5) (v := ?_) rfl (by kernel_rfl) (by kernel_rfl) (by kernel_rfl) (fun _ _ _ h => h) (Or.inl ⟨by rfl, ?_⟩) (by assumption) ?_
  rotate_left 1
  · (intro w' hSw; (try dsimp only at hSw); go_simp; try with_reducible rfl)
  try simp only [Act.put, List.setIfInBounds_toArray, List.set_cons_zero, List.set_cons_succ, List.getElem_toArray, List.getElem_cons_succ, List.getElem_cons_zero]
  refine wpAnyH_take (i := 6) (v := ?_) rfl (by kernel_rfl) (by kernel_rfl) (by kernel_rfl) (fun _ _ _ h => h) (Or.inl ⟨by rfl, ?_⟩) (by assumption) ?_
  rotate_left 1
  · (intro w' hSw; (try dsimp only at hSw); go_simp; try with_reducible rfl)
  try simp only [Act.put, List.setIfInBounds_toArray, List.set_cons_zero, List.set_cons_succ, List.getElem_toArray, List.getElem_cons_succ, List.getElem_cons_zero]
  refine wpAnyH_done (by kernel_rfl) ?_ _
  go_wp2
  refine bodyPost_ret (results_c2 rfl _ _ _ [.int .i64 wd, .int .i64 fl, .slice a n c] rfl cs Try.underlying37 rfl (by kernel_rfl)) rfl ?_
  exact ⟨wd, fl, a, n, c, ys, _, _, rfl, fy, DR.out.le, hby⟩
set_option maxHeartbeats 8000000 in
theorem drawClaim_any {B : Nat} {a0 : Option Addr} {len : Nat} (cap : Nat) {w : World} (hs : len ≤ 4096) (row : Row B a0 len w) (hB : B ≤ w.heap.size) :
    Calls Try.prog 24 #[.slice a0 len cap] w (DJPost w) := by
  go_enter Try.func24, Try.ntmps24
  go_upto_region 1 with (fail)
  obtain ⟨x, hx⟩ : ∃ x, x = w.alloc (.cells #[.int .i64 0, .int .i64 0, .slice none 0 0] 37) := ⟨_, rfl⟩
  rw [← hx]
  have hbx : Below w.heap.size w x := by rw [hx]; go_grown
  have rc : Qc x w.heap.size 0 0 (.slice none 0 0) := by rw [hx]; exact qc_new _ 0 0 _ _
  have rz : ∀ o : Nat, x.frozen? ⟨w.heap.size, o, none⟩ = false := fun o => by rw [hx]; go_simp
  have zx : w.heap.size + 1 ≤ x.heap.size := by rw [hx]; simp
  clear hx
  have row1 : Row B a0 len x := row.mono (hbx.mono hB)
  go_wp2_with (first
    | (go_at_call 62; refine (drawRoom_any cap hs row1 (by omega)).mono ?_; rintro e w2 ⟨wd, fl, a, n, c, ys, z, rfl, fy, hle, hb2⟩; have rc := rc.next hb2; have rz : ∀ o : Nat, w2.frozen? ⟨w.heap.size, o, none⟩ = false := (fun o => (hb2.frozen (by show w.heap.size < _; omega)).trans (rz o)); have r0 := rc.c0; have r1 := rc.c1; have r2 := rc.c2))
  obtain ⟨y, ey, cs, fz, zy, hbel, hon⟩ := over3 (.int .i64 wd) (.int .i64 fl) (.slice a n c) (w := w2) (g := w.heap.size) r0 r1 r2
  rw [← ey]
  refine bodyPost_ret (results_two rfl _ _ _ [.int .i64 wd, .int .i64 fl, .slice a n c] rfl cs Try.underlying37 rfl (by kernel_rfl)) rfl ?_
  exact ⟨wd, fl, a, n, c, ys, _, rfl, (fy.onlyO (OnlyO.of_only hon) (fun g hg e => by have := (fy.own hg).1; injection e with e; omega)).lower (by omega), hle, (below_two hbx hb2).trans (hbel _ (Nat.le_refl _))⟩
end Go.Proofs.Ytoeiheccmpjclaf
