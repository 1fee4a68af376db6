/- spec.DrawServeAll. -/
import Derived.Test.YtdgefdjgpneanadDraw8e
namespace Go.Proofs.Ytdgefdjgpneanad
open Go.ChangeShapes Go.WideShapes Go.ChangeAt Go.RowKit
set_option maxRecDepth 100000
set_option linter.unusedVariables false
set_option linter.unusedSimpArgs false

def SAPost (w : World) (e : Ending) (w' : World) : Prop := ∃ ad c fs a f n, e = .returned (.tuple #[turnV ad fs.length c a f, .int .i64 n]) ∧ T8In w w' ad c fs
set_option maxHeartbeats 4000000 in
theorem drawServeAll_any {B : Nat} {a0 : Option Addr} {len : Nat} (cap : Nat) {w : World} (hs : len ≤ 4096) (row : Row B a0 len w) (hB : B ≤ w.heap.size) :
    Calls Try.prog 23 #[.slice a0 len cap] w (SAPost w) := by
  go_enter Try.func23, Try.ntmps23
  go_upto_region 3 with (first
    | (go_at_call 46; refine (new_any cap hs (row.mono ((Below.refl B w).alloc hB _)) (by simp; omega)).mono ?_; rintro e w1 ⟨b, rfl, hb, k1, hb1⟩; have hb' : w.heap.size < b := (by simp at hb; omega))
    | (go_at_call 77; refine (l8DrawAny_acc k1).mono ?_; rintro e w2 ⟨ad, c, fs, at', fresh, rfl, own2, l4, le, k2, o2⟩))
  obtain ⟨v, hv⟩ : ∃ v, v = w2.alloc (.cells #[.slice ad fs.length c, .int .i64 at', .bool fresh] 48) := ⟨_, rfl⟩
  rw [← hv]
  have D : Hid (R8 B a0 len cap b w v w1.heap.size w2.heap.size ad c fs at' fresh) := by rw [hv]; exact R8.begin hb1 hb' k1 k2 o2 own2 l4 le
  have n3 : w.heap.size ≠ w2.heap.size := by have := D.out.z0; have := D.out.z1; have := D.out.z2; omega
  have n2 : w2.heap.size ≠ w.heap.size := fun e => n3 e.symm
  clear hv own2 k1 k2 o2 hb1 hb
  go_wp2_with (first
    | (go_at_call 61; refine (once_acc _ D3.out.cur (Only.refl _ _) (by omega) (by omega)).mono ?_; rintro e w4 ⟨f4, rfl, k4, o4⟩; have D4 : Hid (R8 B a0 len cap b w w4 w1.heap.size w2.heap.size ad c fs at' fresh) := D3.out.draw o4 k4; have q0 := D4.out.r0; have q1 := D4.out.r1; have q2 := D4.out.r2; have qf := D4.out.rf; have j0 := D4.out.t0; have j1 := D4.out.t1; have j2 := D4.out.t2; cases f4)
    | (go_at_call_of 62 (Value.int IntKind.i64 60); refine (below_acc _ D.out.cur (Only.refl _ _) (by omega) (by omega)).mono ?_; rintro e w3 ⟨x3, rfl, hx3, k3, o3⟩; have D3 : Hid (R8 B a0 len cap b w w3 w1.heap.size w2.heap.size ad c fs at' fresh) := D.out.draw o3 k3)
    | (go_at_call_of 62 (Value.int IntKind.i64 4); refine (below_acc 4 (D4.out.cur.alloc _) (Only.refl _ _) (by omega) (by omega)).mono ?_; rintro e w9 ⟨x9, rfl, hx9, k9, o9⟩; obtain ⟨X, rfl⟩ := Int.eq_ofNat_of_zero_le hx9.1; obtain ⟨yy, hy⟩ := tabN8_in X (by omega); have hcell := (table_cell D4.out.cur.hi o9 X).trans hy; clear hy; have D9 : Hid (R8 B a0 len cap b w w9 w1.heap.size w2.heap.size ad c fs at' fresh) := (D4.out.next (new_below _ _)).draw o9 k9; have q0 := D9.out.r0; have q1 := D9.out.r1; have q2 := D9.out.r2; have qf := D9.out.rf; have j0 := D9.out.t0; have j1 := D9.out.t1; have j2 := D9.out.t2; have hX : (X : Int) < 4 := (by omega)))
  · refine bodyPost_ret (results_two rfl _ _ _ [.slice ad fs.length c, .int .i64 at', .bool fresh] rfl (put3_res (z0 := .slice none 0 0) (z1 := .int .i64 0) (z2 := .bool false) _ _ _ q0 q1 q2) Try.underlying48 rfl (by kernel_rfl)) rfl ?_
    exact ⟨ad, c, fs, at', fresh, _, rfl, D4.out.out _ _ _⟩
  · refine bodyPost_ret (results_two rfl _ _ _ [.slice ad fs.length c, .int .i64 at', .bool fresh] rfl (put3_res (z0 := .slice none 0 0) (z1 := .int .i64 0) (z2 := .bool false) _ _ _ q0 q1 q2) Try.underlying48 rfl (by kernel_rfl)) rfl ?_
    exact ⟨ad, c, fs, at', fresh, _, rfl, D9.out.out _ _ _⟩
end Go.Proofs.Ytdgefdjgpneanad
