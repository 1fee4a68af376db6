/- Filters as values: new memory that holds items, or none; what the laws' functions answer for them. -/
import Derived.Test.YtiibafphgjlffaqEqSmp
import Derived.Test.YtiibafphgjlffaqGrpC
import Derived.Test.YtiibafphgjlffaqPushBoth
namespace Go.Proofs.Ytiibafphgjlffaq
open Go.ChangeShapes Go.WideShapes Go.ChangeAt Go.RowKit
set_option maxRecDepth 100000
set_option linter.unusedVariables false

theorem eqF_any {w : World} {lo lo' : Nat} {v v' : Value} {xs ys : List (Int × Int)} (ha : FV w lo v xs) (hb : FV w lo' v' ys) (hn : xs.length ≤ 4611686018427387904) :
    Calls Try.prog 31 #[.agg #[v], .agg #[v']] w fun e w' => e = .returned (.bool (decide (xs = ys))) ∧ Below w.heap.size w w' := by
  have nilS : Smp w.heap.size w none [] := fun i h => by cases h
  rcases ha with ⟨g, cap, rfl, h1, h2, f, hc⟩ | ⟨rfl, rfl⟩
  · rcases hb with ⟨g', cap', rfl, h1', h2', f', hc'⟩ | ⟨rfl, rfl⟩
    · exact eqFilter_any _ _ (f.smp h2) (f'.smp h2') hn
    · exact eqFilter_any (ys := []) _ 0 (f.smp h2) nilS hn
  · rcases hb with ⟨g', cap', rfl, h1', h2', f', hc'⟩ | ⟨rfl, rfl⟩
    · exact eqFilter_any (xs := []) 0 _ nilS (f'.smp h2') hn
    · exact eqFilter_any (xs := []) (ys := []) 0 0 nilS nilS hn
theorem markNone_any (k : Int) (w : World) (k0 : 0 ≤ k) (k1 : k ≤ 1000000000) :
    Calls Try.prog 59 #[.slice none 0 0, .int .i64 k] w fun e w' => e = .returned (.int .i64 k) ∧ w' = w := by
  go_enter Try.func59, Try.ntmps59
  go_wp2
  refine wp_loop_rounds 1 ?_
  rw [rounds_succ]
  go_wp2
  go_ret
  exact ⟨rfl, rfl⟩
theorem heldNone_any (k : Int) (w : World) (k0 : 0 ≤ k) (k1 : k ≤ 1000000000) :
    Calls Try.prog 60 #[.slice none 0 0, .int .i64 k] w fun e w' => e = .returned (.int .i64 k) ∧ w' = w := by
  go_enter Try.func60, Try.ntmps60
  go_wp2
  refine wp_loop_rounds 1 ?_
  rw [rounds_succ]
  go_wp2
  go_ret
  exact ⟨rfl, rfl⟩
theorem markF_any {w : World} {lo : Nat} {v : Value} {ys : List (Int × Int)} (k : Int) (f : FV w lo v ys) (hn : ys.length ≤ 1048576) (k0 : 0 ≤ k) (k1 : k ≤ 1000000000) :
    Calls Try.prog 32 #[.agg #[v], .int .i64 k] w fun e w' => e = .returned (.int .i64 (k + 2 * ys.length)) ∧ FV w' lo v (marks k ys.length) ∧ OnlyO v.ownBlock w w' := by
  rcases f with ⟨g, cap, rfl, h1, h2, f, hc⟩ | ⟨rfl, rfl⟩
  · refine (markFilter_any cap k f h2 hn k0 k1).mono ?_
    rintro e w' ⟨rfl, f', ho⟩
    refine ⟨rfl, .inl ⟨g, cap, by rw [marks_length], h1, Nat.lt_of_lt_of_le h2 ho.size, ?_, by rw [marks_length]; exact hc⟩, OnlyO.of_only ho⟩
    rw [marks_length]
    exact f'
  · go_enter Try.func32, Try.ntmps32
    go_wp2_with (first | (go_at_call 59; refine (markNone_any k _ k0 k1).mono ?_; rintro e w2 ⟨rfl, rfl⟩))
    go_ret
    exact ⟨ret_i (by simp), .inr ⟨rfl, rfl⟩, OnlyO.of_below (new_below _ _)⟩
theorem heldF_any {w : World} {lo n : Nat} {v : Value} (k : Int) (f : FV w lo v (marks k n)) (hn : n ≤ 1048576) (k0 : 0 ≤ k) (k1 : k ≤ 1000000000) :
    Calls Try.prog 33 #[.agg #[v], .int .i64 k] w fun e w' => e = .returned (.int .i64 (k + 2 * n)) ∧ Below w.heap.size w w' := by
  rcases f with ⟨g, cap, rfl, h1, h2, f, hc⟩ | ⟨rfl, hm⟩
  · rw [marks_length] at f
    rw [marks_length]
    exact heldFilter_any cap k f h2 hn k0 k1
  · have hn0 : n = 0 := by rw [← marks_length k n, hm]; rfl
    subst hn0
    have hpos : ¬ k < 0 := by omega
    go_enter Try.func33, Try.ntmps33
    go_wp2_with (first | (go_at_call 60; refine (heldNone_any k _ k0 k1).mono ?_; rintro e w2 ⟨rfl, rfl⟩))
    go_ret
    exact ⟨ret_i (by simp), new_below _ _⟩
/-- What Push hands back. -/
def PP (w : World) (ys : List (Int × Int)) (f : Bool) (e : Ending) (w' : World) : Prop := ∃ a n c, e = .returned (.tuple #[.agg #[.slice a n c], .bool f]) ∧ FV w' w.heap.size (.slice a n c) ys ∧ Below w.heap.size w w'
theorem push_le (most : Bool) (xs : List (Int × Int)) (s : Int × Int) (win : Int) (h : xs.length ≤ 100) : (pushOf most xs s win).length ≤ 101 := by
  have hy : ∀ (t : Int) (l : List (Int × Int)), (youngOf t l).length ≤ l.length := by
    intro t l
    induction l with
    | nil => exact Nat.le_refl _
    | cons x l ih =>
      cases ho : oldB t (x :: l)
      · rw [young_stay ho]; exact Nat.le_refl _
      · rw [young_old ho]; exact Nat.le_trans ih (by simp)
  have h1 := come_le (most := most) (xs := xs) (s := s)
  have h2 := hy (s.1 - win) (comeOf most xs s)
  unfold pushOf
  dsimp only
  split
  · rw [List.length_tail]; omega
  · omega
theorem pushes (most : Bool) (xs : List (Int × Int)) (p q win : Int) : ∃ ys f, ys.length ≤ 101 ∧
    (∀ (w : World) (a : Option Addr) (cap : Nat), Smp w.heap.size w a xs → Calls Try.prog 48 #[.agg #[.slice a xs.length cap], .agg #[.int .i64 p, .int .i64 q], .int .i64 win, .bool most] w (PP w ys f)) ∧
    (∀ (w : World) (a : Option Addr) (cap : Nat), Smp w.heap.size w a xs → xs.length ≤ cap → (a = none → cap = 0) → Calls Try.prog 51 #[.agg #[.slice a xs.length cap], .agg #[.int .i64 p, .int .i64 q], .int .i64 win, .bool most] w (PP w ys f)) := by
  have yes : ∀ {w : World} {ys : List (Int × Int)} {e : Ending} {w' : World}, YesPost w ys e w' → PP w ys true e w' := by
    rintro w ys e w' ⟨g, cap, rfl, h1, h2, h3, h4, h5⟩
    exact ⟨_, _, _, rfl, .inl ⟨g, cap, rfl, h1, h2, h3, h4⟩, h5⟩
  have no : ∀ {w : World} {e : Ending} {w' : World}, NoPost w e w' → PP w [] false e w' := by
    rintro w e w' ⟨rfl, h⟩
    exact ⟨_, _, _, rfl, .inr ⟨rfl, rfl⟩, h⟩
  by_cases hP : PushOk most xs (p, q) win
  · exact ⟨pushOf most xs (p, q) win, true, push_le _ _ _ _ hP.1.1, fun w a cap h => (specPush_yes cap h hP).mono fun e w' k => yes k, fun w a cap h hc hn => (implPush_yes cap h hc hn hP).mono fun e w' k => yes k⟩
  · exact ⟨[], false, by simp, fun w a cap h => (specPush_no cap h hP).mono fun e w' k => no k, fun w a cap h hc hn => (implPush_no cap h hP).mono fun e w' k => no k⟩
/-- A variable that holds a filter which a call of Push has handed back, and a flag. -/
def Res (v1 : World) (ys : List (Int × Int)) (f : Bool) (s t : Value) (wd : World) : Prop := ∃ b a n c, s = .pointer (some ⟨b, 0, none⟩) ∧ t = .bool f ∧ v1.heap.size ≤ b ∧ b < wd.heap.size ∧ wd.cell? ⟨b, 0, none⟩ = some (.slice a n c) ∧ FV wd v1.heap.size (.slice a n c) ys ∧ (Value.slice a n c).ownBlock ≠ some b ∧ Below v1.heap.size v1 wd
theorem res_alloc {v1 vP : World} {ys : List (Int × Int)} {f : Bool} {a : Option Addr} {n c lo : Nat} {t : TypeId} (hf : FV vP lo (.slice a n c) ys) (hl : v1.heap.size ≤ lo) (hr : Below v1.heap.size v1 vP) : Res v1 ys f (.pointer (some ⟨vP.heap.size, 0, none⟩)) (.bool f) (vP.alloc (.cells #[.slice a n c] t)) := by
  refine ⟨vP.heap.size, a, n, c, rfl, rfl, hr.size, by simp, by go_simp, (hf.lower hl).next (new_below _ _), ?_, below_step hr (new_below _ _)⟩
  intro e
  have := (hf.own e).2
  omega
theorem res_set {v1 vP : World} {ys : List (Int × Int)} {f : Bool} {a : Option Addr} {n c : Nat} {u : Value} {lo B : Nat} (hf : FV vP lo (.slice a n c) ys) (hl : v1.heap.size ≤ lo) (hr : Below v1.heap.size v1 vP) (h1 : v1.heap.size ≤ B) (h2 : B < lo) (hc : vP.cell? ⟨B, 0, none⟩ = some u) :
    Res v1 ys f (.pointer (some ⟨B, 0, none⟩)) (.bool f) (vP.setCell ⟨B, 0, none⟩ (.slice a n c)) := by
  have hB : B < vP.heap.size := World.block_lt_of_cell? vP _ hc
  refine ⟨B, a, n, c, rfl, rfl, h1, by simpa using hB, set_same _ hc, (hf.lower hl).onlyO (OnlyO.of_only ((Only.refl B vP).setCell rfl _)) ?_, ?_, hr.setCell h1 _⟩
  · intro g hg e
    have := (hf.own hg).1
    injection e with e
    omega
  · intro e
    have := (hf.own e).1
    omega
end Go.Proofs.Ytiibafphgjlffaq
