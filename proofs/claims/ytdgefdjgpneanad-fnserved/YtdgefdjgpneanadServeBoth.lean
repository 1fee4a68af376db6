/- Serve's two answers at once. -/
import Derived.Test.YtdgefdjgpneanadSpecServe2
import Derived.Test.YtdgefdjgpneanadImplServe
import Derived.Test.YtdgefdjgpneanadQueueBoth
namespace Go.Proofs.Ytdgefdjgpneanad
open Go.ChangeShapes Go.WideShapes Go.ChangeAt Go.RowKit
set_option maxRecDepth 100000
set_option linter.unusedVariables false
set_option linter.unusedSimpArgs false

theorem try_len {f g : F8} {fresh : Bool} {s : Int} (h : tryF f fresh = some (g, s)) : g.2.2.length ≤ f.2.2.length := by
  unfold tryF at h
  split at h
  · cases h
  · rename_i s' r e
    split at h
    · injection h with h
      injection h with h1 h2
      rw [← h1, e]
      simp
    · cases h
theorem find_len {fs : List F8} {B : Nat} (h : ∀ f ∈ fs, f.2.2.length ≤ B) : ∀ {L : List (Int × Bool)} {k : Int} {g : F8} {s : Int}, findT fs L = some (k, g, s) → g.2.2.length ≤ B
  | [], _, _, _, e => by cases e
  | x :: r, k, g, s, e => by
    cases hx : tryAt fs x with
    | none => rw [find_no hx] at e; exact find_len h e
    | some p =>
      obtain ⟨f', s'⟩ := p
      rw [find_yes hx] at e
      injection e with e
      injection e with e1 e2
      injection e2 with e2 e3
      subst e2
      unfold tryAt at hx
      cases hf : fs[x.1.toNat]? with
      | none => rw [hf] at hx; cases hx
      | some f =>
        rw [hf] at hx
        exact Nat.le_trans (try_len hx) (h f (List.mem_of_getElem? hf))
theorem srv_few {fs : List F8} {at' : Int} {fresh : Bool} (h : TurnsOk fs at' fresh) : Few (srvFs fs at' fresh) := by
  have hl := h.l1
  have hf : ∀ f ∈ fs, f.2.2.length ≤ 100 := fun f hf => by
    obtain ⟨k, hk, rfl⟩ := List.mem_iff_getElem.1 hf
    exact (h.flow k hk).len
  refine few_of (by rw [srv_length]; exact hl) (fun x hx => ?_)
  unfold srvFs at hx
  split at hx
  · rename_i k f s e
    rcases List.mem_or_eq_of_mem_set hx with hx | rfl
    · have := hf x hx; omega
    · have := find_len hf e; omega
  · have := hf x hx; omega
end Go.Proofs.Ytdgefdjgpneanad
