/- ServeAll's two answers at once. -/
import Derived.Test.YtdgefdjgpneanadSpecAll
import Derived.Test.YtdgefdjgpneanadImplAll
import Derived.Test.YtdgefdjgpneanadQueueBoth
import Derived.Test.YtdgefdjgpneanadFlwMarkT
namespace Go.Proofs.Ytdgefdjgpneanad
open Go.ChangeShapes Go.WideShapes Go.ChangeAt Go.RowKit
set_option maxRecDepth 100000
set_option linter.unusedVariables false
set_option linter.unusedSimpArgs false

theorem few_ok {fs : List F8} {a : Int} {f : Bool} (h : TurnsOk fs a f) : Few fs := few_of h.l1 (fun x hx => by
  obtain ⟨k, hk, rfl⟩ := List.mem_iff_getElem.1 hx
  have := (h.flow k hk).len
  omega)
theorem all_ok : ∀ (k : Nat) (fs : List F8) (a : Int) (f : Bool) (S : List Int), TurnsOk fs a f → S.length = fs.length → Few (allR k fs a f S).1 ∧ (allR k fs a f S).2.2.2.length ≤ 30
  | 0, fs, a, f, S, h, hS => ⟨few_ok h, by show S.length ≤ 30; rw [hS]; exact h.l1⟩
  | k + 1, fs, a, f, S, h, hS => by
    cases hfd : findT fs (comeOf fs.length a f fs.length) with
    | none =>
      rw [all_none hfd]
      exact ⟨few_ok h, by show S.length ≤ 30; rw [hS]; exact h.l1⟩
    | some p =>
      obtain ⟨m, g, s, SI⟩ := srv_is h (by rw [hfd]; exact fun e => by cases e)
      rw [all_some SI]
      exact all_ok k _ _ _ _ (SI.ok h) (by rw [List.length_set, List.length_set]; exact hS)
def AllQ (w : World) (Y : List F8) (ya : Int) (yf : Bool) (S : List Int) (e : Ending) (w' : World) : Prop :=
  ∃ a c v, e = .returned (.tuple #[turnV a Y.length c ya yf, v]) ∧ TV w' w.heap.size w'.heap.size (.slice a Y.length c) Y ∧ IV w' w.heap.size v S ∧ Below w.heap.size w w'
def AllQ2 (w : World) (Y : List F8) (ya : Int) (yf : Bool) (S : List Int) (e : Ending) (w' : World) : Prop :=
  ∃ a c v m, e = .returned (.tuple #[turnV a Y.length c ya yf, v]) ∧ TV w' w.heap.size m (.slice a Y.length c) Y ∧ IV w' m v S ∧ Below w.heap.size w w' ∧ w.heap.size ≤ m ∧ m ≤ w'.heap.size
theorem alls (fs : List F8) (at' : Int) (fresh : Bool) (n : Int) : ∃ (Y : List F8) (ya : Int) (yf : Bool) (S : List Int), Few Y ∧ S.length ≤ 30 ∧
    (∀ (w : World) (a : Option Addr) (c : Nat), Fls w.heap.size w a fs → fs.length ≤ 4611686018427387904 → (∀ f ∈ fs, f.2.2.length ≤ 4611686018427387904) → Calls Try.prog 25 #[turnV a fs.length c at' fresh, .int .i64 n] w (AllQ w Y ya yf S)) ∧
    (∀ (w : World) (a : Option Addr) (c : Nat), Fls w.heap.size w a fs → fs.length ≤ 4611686018427387904 → (∀ f ∈ fs, f.2.2.length ≤ 4611686018427387904) → Calls Try.prog 24 #[turnV a fs.length c at' fresh, .int .i64 n] w (AllQ2 w Y ya yf S)) := by
  have hfew : Few (allOf fs at' fresh n).1 ∧ (allOf fs at' fresh n).2.2.2.length ≤ 30 := by
    unfold allOf
    split
    · rename_i h
      unfold allB at h
      rw [Bool.and_eq_true] at h
      exact all_ok _ _ _ _ _ (turns_ok h.1) List.length_replicate
    · exact ⟨few_nil, by simp⟩
  exact ⟨(allOf fs at' fresh n).1, (allOf fs at' fresh n).2.1, (allOf fs at' fresh n).2.2.1, (allOf fs at' fresh n).2.2.2, hfew.1, hfew.2, fun w a c h1 h2 h3 => specAll_any c at' fresh n h1 h2 h3, fun w a c h1 h2 h3 => iAll_any c at' fresh n h1 h2 h3⟩
theorem IV.onlyI {w w' : World} {lo lo' hi' : Nat} {v : Value} {xs : List Int} (h : IV w lo v xs) (hb : OnlyI lo' hi' w w') (hv : ∀ g, v.ownBlock = some g → g < lo' ∨ hi' ≤ g) : IV w' lo v xs := by
  rcases h with ⟨g, cap, rfl, h1, h2, f, hc⟩ | h
  · exact .inl ⟨g, cap, rfl, h1, Nat.lt_of_lt_of_le h2 hb.size, f.block (hb.block g h2 (hv g rfl)), hc⟩
  · exact .inr h
theorem kAt_few {Y : List F8} (h : Few Y) : kAt 1 Y Y.length ≤ 3000000 := by
  have := h.all
  unfold kAt
  omega
end Go.Proofs.Ytdgefdjgpneanad
