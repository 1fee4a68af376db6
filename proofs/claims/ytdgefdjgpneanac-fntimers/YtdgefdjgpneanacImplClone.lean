/- What slices.Clone answers at timers. -/
import Derived.Test.YtdgefdjgpneanacSpecCancel
import Derived.Test.YtdgefdjgpneanacGrpC
import Derived.Lib.SliceRun
namespace Go.Proofs.Ytdgefdjgpneanac
open Go.ChangeShapes Go.WideShapes Go.ChangeAt Go.RowKit
set_option linter.unusedVariables false
set_option maxRecDepth 100000

theorem smp_newt {B : Nat} {w : World} {b off : Nat} {N : List (Int × Int)} (h : Smp B w (some ⟨b, off, none⟩) N) : ∀ j v, (flat N)[j]? = some v → w.cell? ((⟨b, off, none⟩ : Addr).add j) = some v := by
  intro j v hv
  have hj : j < (flat N).length := (List.getElem?_eq_some_iff.1 hv).1
  rw [flat_length] at hj
  have e : (⟨b, off, none⟩ : Addr).add j = ⟨b, off + j, none⟩ := by unfold Addr.add; split <;> simp_all
  rw [e]
  have hi : j / 2 < N.length := by omega
  obtain ⟨h0, h1⟩ := flat_get N (j / 2) hi
  obtain ⟨c0, c1⟩ := h.cells (Below.refl _ _) (j / 2) hi
  rcases Nat.mod_two_eq_zero_or_one j with h | h
  · rw [show j / 2 * 2 = j by omega, hv] at h0
    rw [h0, show off + j = off + j / 2 * 2 by omega]
    exact c0
  · rw [show j / 2 * 2 + 1 = j by omega, hv] at h1
    rw [h1, show off + j = off + j / 2 * 2 + 1 by omega]
    exact c1
theorem smp_all {B : Nat} {w : World} {a : Option Addr} {L : List (Int × Int)} (h : Smp B w a L) : ∀ b, a = some b → ∀ j u, (flat L)[j]? = some u → w.cell? (b.add j) = some u := by
  intro b hb j u hu
  have hj : j < (flat L).length := (List.getElem?_eq_some_iff.1 hu).1
  rw [flat_length] at hj
  obtain ⟨b', off', e, _⟩ := h 0 (by omega)
  obtain rfl : b = ⟨b', off', none⟩ := by rw [e] at hb; injection hb with hb; exact hb.symm
  subst e
  exact smp_newt h j u hu
/-- A row of the call's own. -/
def RowPost (w : World) (N : List (Int × Int)) (e : Ending) (w' : World) : Prop := ∃ v, e = .returned v ∧ w'.ownsRow w.heap.size 87 2 v N.length (flat N) ∧ Below w.heap.size w w'
set_option maxHeartbeats 2000000 in
theorem cloneT_any {w : World} {a : Option Addr} (cap : Nat) {xs : List (Int × Int)} (h : Smp w.heap.size w a xs) (hl : xs.length ≤ 201) :
    Calls Try.prog 77 #[.slice a xs.length cap] w (RowPost w xs) := by
  obtain ⟨i0, hi, hz0, hz1, hz2⟩ := info_parts info_tim
  have q : ∀ (w : World) (a : Option Addr) (n c n' c' : Nat), (binOp .eql 34 (.slice a n c) (.slice none n' c')).run Try.prog w = .ok (.bool a.isNone) w := fun w a n c n' c' => Lib.run_eql_slice_nil w _ _ a n c n' c' Try.underlying34
  cases a with
  | none =>
    have hx : xs = [] := by
      cases xs with
      | nil => rfl
      | cons x r => obtain ⟨b, off, e, _⟩ := h 0 (by simp); cases e
    subst hx
    go_enter Try.func77, Try.ntmps77
    go_wp2
    go_ret
    exact ⟨_, rfl, ⟨rfl, .inl ⟨rfl, rfl⟩⟩, Below.refl _ _⟩
  | some ad =>
    have A : Hid (∀ j u, (flat xs)[j]? = some u → (w.alloc (.cells #[] 87)).cell? (ad.add j) = some u) := fun j u hj => smp_all (h.mono (by go_grown)) ad rfl j u hj
    go_enter Try.func77, Try.ntmps77
    go_wp2_with (at_builtin; refine wpList_append_own _ rfl _ _ 34 rfl w.heap.size 87 i0 _ 2 16 Try.underlying34 hi hz0 hz1 hz2 rfl (by decide) _ 0 [] rfl (own_none w _) ad xs.length cap (flat xs) rfl (flat_length xs) A.out (flat_one' xs) (by unfold maxLen; omega) (by omega) (by simp) ?_; intro v' w1 hown hgr hnil)
    go_ret
    exact ⟨v', rfl, by simpa using hown, ((Below.refl _ w).alloc (Nat.le_refl _) _).grown hgr (by simp) (fun k hk => Nat.le_of_eq (Option.some.inj hk))⟩
end Go.Proofs.Ytdgefdjgpneanac
