/- A new cursor, and the draws of chapter 1's arguments: whatever the bytes, numbers of 64 bits; nothing that was there is written. -/
import Derived.Test.YtmophpbfaonfmabDraw
namespace Go.Proofs.Ytmophpbfaonfmab
open Go.ChangeShapes Go.WideShapes Go.ChangeAt Go.RowKit
set_option maxRecDepth 100000
set_option linter.unusedVariables false

/-- The row of len bytes at a0 lies below block B. -/
def Row (B : Nat) (a0 : Option Addr) (len : Nat) (w : World) : Prop :=
  ∀ i : Nat, i < len → ∃ (xb xo : Nat) (z : Int), a0 = some ⟨xb, xo, none⟩ ∧ xb < B ∧ w.cell? ⟨xb, xo + i, none⟩ = some (.int .u8 z) ∧ 0 ≤ z ∧ z ≤ 255
theorem Row.mono {B : Nat} {a0 : Option Addr} {len : Nat} {w w' : World} (r : Row B a0 len w) (h : Below B w w') : Row B a0 len w' := fun i hi => by
  obtain ⟨xb, xo, z, e, hx, hc, hz⟩ := r i hi
  exact ⟨xb, xo, z, e, hx, (h.cell (by exact hx)).trans hc, hz⟩
/-- A number of 64 bits. -/
def I64 (x : Int) : Prop := -9223372036854775808 ≤ x ∧ x ≤ 9223372036854775807
theorem I64_wrap (x : Int) : I64 (wrap64 x) := by unfold I64 wrap64; omega

set_option maxHeartbeats 400000 in
theorem new_any {B : Nat} {a0 : Option Addr} {len : Nat} (cap : Nat) {w : World} (hs : len ≤ 4096) (row : Row B a0 len w) (hB : B ≤ w.heap.size) :
    Calls Try.prog 37 #[.slice a0 len cap] w fun e w' => ∃ b, e = .returned (.pointer (some ⟨b, 0, none⟩)) ∧ w.heap.size ≤ b ∧ Cur B a0 len cap b w' ∧ Below w.heap.size w w' := by
  go_enter Try.func37, Try.ntmps37
  go_wp2
  go_loop [3, 4] (fun sh si => ∃ (k : Nat) (v : Int), si = .int .i64 k ∧ k ≤ len ∧ sh = .int .i64 v) (fun _ i => len - (intOf i).toNat)
  case atStart => exact ⟨0, _, rfl, by omega, rfl⟩
  case round =>
    obtain ⟨k, v, rfl, hk, rfl⟩ := hrel
    by_cases hlt : k < len
    · obtain ⟨xb, xo, z, rfl, hx, cz, z0, z1⟩ := row k hlt
      have hlt' : (k : Int) < (len : Int) := by omega
      go_wp2
      go_round
      case rel => exact ⟨k + 1, _, by go_num, by omega, rfl⟩
      case measure => first | (simp [intOf]; done) | (simp [intOf]; omega)
    · have e : k = len := by omega
      subst e
      go_wp2
      go_ret
      refine ⟨_, rfl, Nat.le_refl _, ⟨hs, hB, by simp, ⟨0, v, ?_, ?_, ?_, by omega⟩, ?_, row.mono ((Below.refl _ _).alloc hB _)⟩, new_below _ _⟩
      all_goals first | (go_simp; done) | (intro j; go_simp; done)
end Go.Proofs.Ytmophpbfaonfmab
