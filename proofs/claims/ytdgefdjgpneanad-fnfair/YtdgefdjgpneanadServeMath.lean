/- Serving as mathematics: the turns of a round, one after another, until a flow's first size fits. -/
import Derived.Test.YtdgefdjgpneanadComing
namespace Go.Proofs.Ytdgefdjgpneanad
open Go.ChangeShapes Go.WideShapes Go.ChangeAt Go.RowKit
set_option maxRecDepth 100000
set_option linter.unusedVariables false

/-- What a flow has when its turn comes. -/
def dueOf (q d : Int) (fresh : Bool) : Int := if fresh = true then d + q else d
/-- A turn: the flow behind it and the size, where its first size fits. -/
def tryF (f : F8) (fresh : Bool) : Option (F8 × Int) := match f.2.2 with
  | [] => none
  | s :: r => if s ≤ dueOf f.1 f.2.1 fresh then some ((f.1, (if r.length = 0 then 0 else dueOf f.1 f.2.1 fresh - s), r), s) else none
def tryAt (fs : List F8) (x : Int × Bool) : Option (F8 × Int) := match fs[x.1.toNat]? with | some f => tryF f x.2 | none => none
def findT (fs : List F8) : List (Int × Bool) → Option (Int × F8 × Int)
  | [] => none
  | x :: r => match tryAt fs x with | some (f, s) => some (x.1, f, s) | none => findT fs r
theorem find_no {fs : List F8} {x : Int × Bool} {r : List (Int × Bool)} (h : tryAt fs x = none) : findT fs (x :: r) = findT fs r := by
  show (match tryAt fs x with | some (f, s) => some (x.1, f, s) | none => findT fs r) = _
  rw [h]
theorem find_yes {fs : List F8} {x : Int × Bool} {r : List (Int × Bool)} {f : F8} {s : Int} (h : tryAt fs x = some (f, s)) : findT fs (x :: r) = some (x.1, f, s) := by
  show (match tryAt fs x with | some (f, s) => some (x.1, f, s) | none => findT fs r) = _
  rw [h]
theorem find_some {fs : List F8} : ∀ {L : List (Int × Bool)}, (∃ x ∈ L, tryAt fs x ≠ none) → findT fs L ≠ none
  | [], h => by obtain ⟨x, hx, _⟩ := h; cases hx
  | y :: r, h => by
    cases hy : tryAt fs y with
    | some p =>
      obtain ⟨f, s⟩ := p
      rw [find_yes hy]
      intro e
      cases e
    | none =>
      rw [find_no hy]
      obtain ⟨x, hx, hn⟩ := h
      rcases List.mem_cons.1 hx with rfl | hx
      · exact absurd hy hn
      · exact find_some ⟨x, hx, hn⟩
theorem come_length (n : Nat) (at' : Int) (fresh : Bool) (m : Nat) : (comeOf n at' fresh m).length = m + 1 := by simp [comeOf]
theorem come_zero (n : Nat) (at' : Int) (fresh : Bool) (m : Nat) (h : 0 < (comeOf n at' fresh m).length) : (comeOf n at' fresh m)[0] = (at', fresh) := rfl
theorem come_succ (n : Nat) (at' : Int) (fresh : Bool) (m j : Nat) (h : j + 1 < (comeOf n at' fresh m).length) : (comeOf n at' fresh m)[j + 1] = ((at' + 1 + (j : Int)) % (n : Int), true) := by
  simp [comeOf]
/-- The turn of each place, its flow's number in range. -/
theorem come_in {n : Nat} {at' : Int} {fresh : Bool} {m j : Nat} (hn : 1 ≤ n) (a0 : 0 ≤ at') (a1 : at' < n) (h : j < (comeOf n at' fresh m).length) : 0 ≤ (comeOf n at' fresh m)[j].1 ∧ (comeOf n at' fresh m)[j].1 < n := by
  cases j with
  | zero => exact ⟨a0, a1⟩
  | succ j =>
    rw [come_succ]
    exact ⟨Int.emod_nonneg _ (by omega), Int.emod_lt_of_pos _ (by omega)⟩
/-- The next turn is the next flow's, fresh. -/
theorem come_next {n : Nat} {at' : Int} {fresh : Bool} {m j : Nat} (hn : 1 ≤ n) (a0 : 0 ≤ at') (a1 : at' < n) (h : j < (comeOf n at' fresh m).length) (h' : j + 1 < (comeOf n at' fresh m).length) : (comeOf n at' fresh m)[j + 1] = (((comeOf n at' fresh m)[j].1 + 1) % (n : Int), true) := by
  rw [come_succ]
  cases j with
  | zero => rw [come_zero]; simp
  | succ j =>
    rw [come_succ]
    show (_, true) = (_, true)
    congr 1
    rw [Int.emod_add_emod]
    congr 1
    omega
/-- A fresh flow that has Sizes is served. -/
theorem fresh_yes {f : F8} (h : FlowOk f) (hs : f.2.2 ≠ []) : tryF f true ≠ none := by
  obtain ⟨q, d, xs⟩ := f
  cases xs with
  | nil => exact absurd rfl hs
  | cons s r =>
    have h1 := sg_at h.seg 0 (by simp)
    have hq := h.q0
    have hd := h.d0
    simp only [List.getElem_cons_zero] at h1
    simp only at hq hd
    unfold tryF dueOf
    simp only [if_true]
    rw [if_pos (by omega)]
    intro e
    cases e
theorem try_nil {f : F8} (fresh : Bool) (h : f.2.2 = []) : tryF f fresh = none := by
  unfold tryF
  rw [h]
/-- Every flow has its fresh turn. -/
theorem come_all {n : Nat} {at' : Int} (fresh : Bool) (hn : 1 ≤ n) (a0 : 0 ≤ at') (a1 : at' < n) (k : Nat) (hk : k < n) : ((k : Int), true) ∈ comeOf n at' fresh n := by
  unfold comeOf
  refine List.mem_cons.2 (.inr (List.mem_map.2 ⟨(((k : Int) - at' - 1) % (n : Int)).toNat, ?_, ?_⟩))
  · rw [List.mem_range]
    have h1 := Int.emod_nonneg ((k : Int) - at' - 1) (show (n : Int) ≠ 0 by omega)
    have h2 := Int.emod_lt_of_pos ((k : Int) - at' - 1) (show (0 : Int) < n by omega)
    omega
  · have h1 := Int.emod_nonneg ((k : Int) - at' - 1) (show (n : Int) ≠ 0 by omega)
    congr 1
    rw [Int.toNat_of_nonneg h1, Int.add_emod_emod]
    rw [show at' + 1 + ((k : Int) - at' - 1) = (k : Int) by omega]
    exact Int.emod_eq_of_lt (by omega) (by omega)
theorem find_has {fs : List F8} {at' : Int} {fresh : Bool} (h : TurnsOk fs at' fresh) (hs : ∃ (k : Nat) (hk : k < fs.length), fs[k].2.2 ≠ []) : findT fs (comeOf fs.length at' fresh fs.length) ≠ none := by
  obtain ⟨k, hk, hne⟩ := hs
  refine find_some ⟨((k : Int), true), come_all fresh h.l0 h.a0 h.a1 k hk, ?_⟩
  unfold tryAt
  rw [Int.toNat_natCast, List.getElem?_eq_getElem hk]
  exact fresh_yes (h.flow k hk) hne
theorem find_none {fs : List F8} (hs : ∀ (k : Nat) (hk : k < fs.length), fs[k].2.2 = []) : ∀ L, findT fs L = none
  | [] => rfl
  | x :: r => by
    have hx : tryAt fs x = none := by
      unfold tryAt
      cases hf : fs[x.1.toNat]? with
      | none => rfl
      | some f =>
        obtain ⟨hk, e⟩ := List.getElem?_eq_some_iff.1 hf
        exact try_nil _ (by rw [← e]; exact hs _ hk)
    rw [find_no hx]
    exact find_none hs r
/-- What a Serve leaves and tells. -/
def srvFs (fs : List F8) (at' : Int) (fresh : Bool) : List F8 := match findT fs (comeOf fs.length at' fresh fs.length) with | some (k, f, _) => fs.set k.toNat f | none => fs
def srvAt (fs : List F8) (at' : Int) (fresh : Bool) : Int := match findT fs (comeOf fs.length at' fresh fs.length) with | some (k, _, _) => k | none => at'
def srvFr (fs : List F8) (at' : Int) (fresh : Bool) : Bool := match findT fs (comeOf fs.length at' fresh fs.length) with | some _ => false | none => fresh
def srvI (fs : List F8) (at' : Int) (fresh : Bool) : Int := match findT fs (comeOf fs.length at' fresh fs.length) with | some (k, _, _) => k | none => -1
def srvN (fs : List F8) (at' : Int) (fresh : Bool) : Int := match findT fs (comeOf fs.length at' fresh fs.length) with | some (_, _, s) => s | none => 0
end Go.Proofs.Ytdgefdjgpneanad
