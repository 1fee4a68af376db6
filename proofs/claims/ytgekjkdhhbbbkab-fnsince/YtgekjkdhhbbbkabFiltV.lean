/- Filters as values: new memory that holds items, or none; what the laws' functions answer for them. -/
import Derived.Test.YtgekjkdhhbbbkabEqSmp
import Derived.Test.YtgekjkdhhbbbkabMarkSmp
import Derived.Test.YtgekjkdhhbbbkabPushBoth
import Derived.Test.YtgekjkdhhbbbkabCells
namespace Go.Proofs.Ytgekjkdhhbbbkab
open Go.ChangeShapes Go.WideShapes Go.ChangeAt Go.RowKit
set_option linter.unusedVariables false

/-- Of all old blocks at most the one that is named has turned. -/
structure OnlyO (o : Option Nat) (w w' : World) : Prop where
  os : w'.os = w.os
  tape : w'.tape = w.tape
  output : w'.output = w.output
  size : w.heap.size ≤ w'.heap.size
  block : ∀ k, k < w.heap.size → o ≠ some k → w'.heap[k]? = w.heap[k]?
theorem OnlyO.of_below {o : Option Nat} {w w' : World} (h : Below w.heap.size w w') : OnlyO o w w' := ⟨h.os, h.tape, h.output, h.size, fun k hk _ => h.block k hk⟩
theorem OnlyO.of_only {g : Nat} {w w' : World} (h : Only g w w') : OnlyO (some g) w w' := ⟨h.os, h.tape, h.output, h.size, fun k hk hn => h.block k hk (fun e => hn (by rw [e]))⟩
theorem OnlyO.below {o : Option Nat} {B : Nat} {w w' : World} (h : OnlyO o w w') (hb : ∀ g, o = some g → B ≤ g) (hB : B ≤ w.heap.size) : Below B w w' :=
  ⟨h.os, h.tape, h.output, h.size, fun k hk => h.block k (by omega) (fun e => by have := hb k e; omega)⟩
theorem OnlyO.cell {o : Option Nat} {w w' : World} (h : OnlyO o w w') {p : Addr} (hp : p.block < w.heap.size) (hb : o ≠ some p.block) : w'.cell? p = w.cell? p := World.cell?_of_block (w := w) (h.block p.block hp hb)
theorem OnlyO.frozen {o : Option Nat} {w w' : World} (h : OnlyO o w w') {p : Addr} (hp : p.block < w.heap.size) (hb : o ≠ some p.block) : w'.frozen? p = w.frozen? p := World.frozen?_of_block (w := w) (h.block p.block hp hb)
theorem Cells.onlyO {w w' : World} {o : Option Nat} (ho : OnlyO o w w') : ∀ {cs : List (Nat × Nat × Value)}, (∀ c ∈ cs, o ≠ some c.1) → Cells w cs → Cells w' cs
  | [], _, _ => trivial
  | (b, o', v) :: r, hg, ⟨⟨h1, h2⟩, h⟩ => ⟨⟨Nat.lt_of_lt_of_le h1 ho.size, (ho.cell h1 (hg (b, o', v) (List.mem_cons_self ..))).trans h2⟩, Cells.onlyO ho (fun c hc => hg c (List.mem_cons_of_mem _ hc)) h⟩
/-- v is a filter's list: the items ys in a block of their own from lo on, or none. -/
def FV (w : World) (lo : Nat) (v : Value) (ys : List (Int × Int)) : Prop :=
  (∃ g cap, v = .slice (some ⟨g, 0, none⟩) ys.length cap ∧ lo ≤ g ∧ g < w.heap.size ∧ Fill w g ys.length ys ys.length ∧ ys.length ≤ cap) ∨ (v = .slice none 0 0 ∧ ys = [])
theorem FV.own {w : World} {lo : Nat} {v : Value} {ys : List (Int × Int)} (h : FV w lo v ys) {g : Nat} (hg : v.ownBlock = some g) : lo ≤ g ∧ g < w.heap.size := by
  rcases h with ⟨g', cap, rfl, h1, h2, _⟩ | ⟨rfl, _⟩
  · injection hg with hg
    have e : g' = g := hg
    subst e
    exact ⟨h1, h2⟩
  · cases hg
theorem FV.next {w w' : World} {lo : Nat} {v : Value} {ys : List (Int × Int)} (h : FV w lo v ys) (hb : Below w.heap.size w w') : FV w' lo v ys := by
  rcases h with ⟨g, cap, rfl, h1, h2, f, hc⟩ | h
  · exact .inl ⟨g, cap, rfl, h1, Nat.lt_of_lt_of_le h2 hb.size, f.mono hb h2, hc⟩
  · exact .inr h
theorem FV.onlyO {w w' : World} {lo : Nat} {o : Option Nat} {v : Value} {ys : List (Int × Int)} (h : FV w lo v ys) (hb : OnlyO o w w') (hv : ∀ g, v.ownBlock = some g → o ≠ some g) : FV w' lo v ys := by
  rcases h with ⟨g, cap, rfl, h1, h2, f, hc⟩ | h
  · have hn := hv g rfl
    refine .inl ⟨g, cap, rfl, h1, Nat.lt_of_lt_of_le h2 hb.size, ⟨fun j hj => ?_, fun i hi hk => ?_⟩, hc⟩
    · obtain ⟨⟨z, hz⟩, hf⟩ := f.any j hj
      exact ⟨⟨z, (hb.cell (by exact h2) (by exact hn)).trans hz⟩, (hb.frozen (by exact h2) (by exact hn)).trans hf⟩
    · exact ⟨(hb.cell (by exact h2) (by exact hn)).trans (f.got i hi hk).1, (hb.cell (by exact h2) (by exact hn)).trans (f.got i hi hk).2⟩
  · exact .inr h
/-- What Push hands back. -/
def PP (w : World) (ys : List (Int × Int)) (f : Bool) (e : Ending) (w' : World) : Prop := ∃ a n c, e = .returned (.tuple #[.agg #[.slice a n c], .bool f]) ∧ FV w' w.heap.size (.slice a n c) ys ∧ Below w.heap.size w w'
theorem push_le (most : Bool) (xs : List (Int × Int)) (s : Int × Int) (win : Int) (h : xs.length ≤ 100) : (pushOf most xs s win).length ≤ 101 := by
  have hy : ∀ (t : Int) (l : List (Int × Int)), (youngOf t l).length ≤ l.length := by
    intro t l
    induction l with
    | nil => exact Nat.le_refl _
    | cons x l ih =>
      cases ho : oldB t (x :: l)
      · rw [young_stay ho]; exact Nat.le_refl _
      · rw [young_old ho]; exact Nat.le_trans ih (by simp)
  have h1 := come_le (most := most) (xs := xs) (s := s)
  have h2 := hy (s.1 - win) (comeOf most xs s)
  unfold pushOf
  dsimp only
  split
  · rw [List.length_tail]; omega
  · omega
theorem pushes (most : Bool) (xs : List (Int × Int)) (p q win : Int) : ∃ ys f, ys.length ≤ 101 ∧
    (∀ (w : World) (a : Option Addr) (cap : Nat), Smp w.heap.size w a xs → Calls Try.prog 18 #[.agg #[.slice a xs.length cap], .agg #[.int .i64 p, .int .i64 q], .int .i64 win, .bool most] w (PP w ys f)) ∧
    (∀ (w : World) (a : Option Addr) (cap : Nat), Smp w.heap.size w a xs → xs.length ≤ cap → (a = none → cap = 0) → Calls Try.prog 17 #[.agg #[.slice a xs.length cap], .agg #[.int .i64 p, .int .i64 q], .int .i64 win, .bool most] w (PP w ys f)) := by
  have yes : ∀ {w : World} {ys : List (Int × Int)} {e : Ending} {w' : World}, YesPost w ys e w' → PP w ys true e w' := by
    rintro w ys e w' ⟨g, cap, rfl, h1, h2, h3, h4, h5⟩
    exact ⟨_, _, _, rfl, .inl ⟨g, cap, rfl, h1, h2, h3, h4⟩, h5⟩
  have no : ∀ {w : World} {e : Ending} {w' : World}, NoPost w e w' → PP w [] false e w' := by
    rintro w e w' ⟨rfl, h⟩
    exact ⟨_, _, _, rfl, .inr ⟨rfl, rfl⟩, h⟩
  by_cases hP : PushOk most xs (p, q) win
  · exact ⟨pushOf most xs (p, q) win, true, push_le _ _ _ _ hP.1.1, fun w a cap h => (specPush_yes cap h hP).mono fun e w' k => yes k, fun w a cap h hc hn => (implPush_yes cap h hc hn hP).mono fun e w' k => yes k⟩
  · exact ⟨[], false, by simp, fun w a cap h => (specPush_no cap h hP).mono fun e w' k => no k, fun w a cap h hc hn => (implPush_no cap h hP).mono fun e w' k => no k⟩
/-- A variable that holds a filter which a call of Push has handed back, and a flag. -/
def Res (v1 : World) (ys : List (Int × Int)) (f : Bool) (s t : Value) (wd : World) : Prop := ∃ b a n c, s = .pointer (some ⟨b, 0, none⟩) ∧ t = .bool f ∧ v1.heap.size ≤ b ∧ b < wd.heap.size ∧ wd.cell? ⟨b, 0, none⟩ = some (.slice a n c) ∧ FV wd v1.heap.size (.slice a n c) ys ∧ (Value.slice a n c).ownBlock ≠ some b ∧ Below v1.heap.size v1 wd
theorem FV.lower {w : World} {lo lo' : Nat} {v : Value} {ys : List (Int × Int)} (h : FV w lo v ys) (hl : lo' ≤ lo) : FV w lo' v ys := by
  rcases h with ⟨g, cap, rfl, h1, h2, f, hc⟩ | h
  · exact .inl ⟨g, cap, rfl, Nat.le_trans hl h1, h2, f, hc⟩
  · exact .inr h
theorem res_alloc {v1 vP : World} {ys : List (Int × Int)} {f : Bool} {a : Option Addr} {n c lo : Nat} {t : TypeId} (hf : FV vP lo (.slice a n c) ys) (hl : v1.heap.size ≤ lo) (hr : Below v1.heap.size v1 vP) : Res v1 ys f (.pointer (some ⟨vP.heap.size, 0, none⟩)) (.bool f) (vP.alloc (.cells #[.slice a n c] t)) := by
  refine ⟨vP.heap.size, a, n, c, rfl, rfl, hr.size, by simp, by go_simp, (hf.lower hl).next (new_below _ _), ?_, below_step hr (new_below _ _)⟩
  intro e
  have := (hf.own e).2
  omega
theorem res_set {v1 vP : World} {ys : List (Int × Int)} {f : Bool} {a : Option Addr} {n c : Nat} {u : Value} {lo B : Nat} (hf : FV vP lo (.slice a n c) ys) (hl : v1.heap.size ≤ lo) (hr : Below v1.heap.size v1 vP) (h1 : v1.heap.size ≤ B) (h2 : B < lo) (hc : vP.cell? ⟨B, 0, none⟩ = some u) :
    Res v1 ys f (.pointer (some ⟨B, 0, none⟩)) (.bool f) (vP.setCell ⟨B, 0, none⟩ (.slice a n c)) := by
  have hB : B < vP.heap.size := World.block_lt_of_cell? vP _ hc
  refine ⟨B, a, n, c, rfl, rfl, h1, by simpa using hB, set_same _ hc, (hf.lower hl).onlyO (OnlyO.of_only ((Only.refl B vP).setCell rfl _)) ?_, ?_, hr.setCell h1 _⟩
  · intro g hg e
    have := (hf.own hg).1
    injection e with e
    omega
  · intro e
    have := (hf.own e).1
    omega
end Go.Proofs.Ytgekjkdhhbbbkab
