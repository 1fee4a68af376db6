/- Lemmas on the way, of several texts: Cls, SpecLeaf, SpecBuck3, ClsHeld, Bkt. -/
import Derived.Test.YtmophpbfaonfmacGrpF
import Derived.Deep.RegionHeld3
import Derived.Test.YtmophpbfaonfmacGrpC
namespace Go.Proofs.Ytmophpbfaonfmac
open Go.ChangeShapes Go.WideShapes Go.ChangeAt Go.RowKit
set_option maxRecDepth 100000
set_option linter.unusedVariables false

theorem info_class : (Try.prog.info? 61).map (fun i => (i.zero, i.size, i.bytes)) = some (some (.agg #[.int .i64 0, .int .i64 0, .int .i64 0, .int .i64 0]), 4, 32) := by kernel_rfl
theorem cellsQ_i_class : Try.prog.cellsOf 2 = 1 := by kernel_rfl
end Go.Proofs.Ytmophpbfaonfmac
namespace Go.Proofs.Ytmophpbfaonfmac
open Go.ChangeShapes Go.WideShapes Go.ChangeAt Go.RowKit
set_option maxRecDepth 100000
set_option linter.unusedVariables false
set_option linter.unusedSimpArgs false

/-- No class has i for its parent. -/
def leafB (ts : List Q4) (i : Int) : Bool := ts.all fun t => !decide (t.1 = i)
theorem leaf_no {ts : List Q4} {i : Int} {k : Nat} (hk : k < ts.length) (h : ts[k].1 = i) : leafB ts i = false := by
  unfold leafB
  rw [List.all_eq_false]
  exact ⟨ts[k], List.getElem_mem hk, by simp [h]⟩
theorem leaf_yes {ts : List Q4} {i : Int} (h : ∀ k (hk : k < ts.length), ts[k].1 ≠ i) : leafB ts i = true := by
  unfold leafB
  rw [List.all_eq_true]
  intro t ht
  obtain ⟨k, hk, rfl⟩ := List.mem_iff_getElem.1 ht
  simp [h k hk]
set_option maxHeartbeats 1000000 in
theorem specLeaf_any {w : World} {a : Option Addr} (cap : Nat) {ts : List Q4} (i : Int) (h : Quad w.heap.size w a ts) (hl : ts.length ≤ 1048576) :
    Calls Try.prog 92 #[.slice a ts.length cap, .int .i64 i] w fun e w' => e = .returned (.bool (leafB ts i)) ∧ w' = w := by
  have hl' : (ts.length : Int) ≤ 1048576 := by omega
  go_enter Try.func92, Try.ntmps92
  go_wp2
  go_loop [5] (fun s => ∃ k : Nat, s = .int .i64 k ∧ k ≤ ts.length ∧ Hid (∀ m (h : m < ts.length), m < k → ts[m].1 ≠ i)) (fun s => ts.length - (intOf s).toNat)
  case atStart => exact ⟨0, rfl, by omega, fun m h k => by omega⟩
  case round =>
    obtain ⟨k, rfl, hk, HA⟩ := hrel
    by_cases hlt : k < ts.length
    · obtain ⟨b, off, rfl, hb, c0, c1, c2, c3⟩ := h.at (Below.refl _ _) k hlt
      have hlt' : (k : Int) < (ts.length : Int) := by omega
      by_cases hp : ts[k].1 = i
      · have HP : Hid (leafB ts i = false) := leaf_no hlt hp
        rw [hp] at c0
        clear hp
        go_wp2
        go_ret
        exact ⟨retQ HP.out.symm, rfl⟩
      · obtain ⟨p, hx⟩ : ∃ p, ts[k].1 = p := ⟨_, rfl⟩
        have HX : Hid (ts[k].1 = p) := hx
        rw [hx] at c0 hp
        clear hx
        have hp' : (p == i) = false := by simp [hp]
        go_wp2
        go_round
        case rel =>
          refine ⟨k + 1, by go_num, by omega, fun m hm hk => ?_⟩
          by_cases e : m = k
          · subst e
            rw [HX.out]
            exact hp
          · exact HA.out m hm (by omega)
        case measure => first | (simp [intOf]; done) | (simp [intOf]; omega)
    · have e : k = ts.length := by omega
      subst e
      go_wp2
      go_ret
      exact ⟨retQ (leaf_yes (fun m hm => HA.out m hm hm)).symm, rfl⟩
end Go.Proofs.Ytmophpbfaonfmac
namespace Go.Proofs.Ytmophpbfaonfmac
open Go.ChangeShapes Go.WideShapes Go.ChangeAt Go.RowKit
set_option maxRecDepth 100000
set_option linter.unusedVariables false

def fillOf (r u l t now : Int) : Int × Int × Int × Int := if (bokB r u l t && timeB now) = true then (r, u, fillL r u l t now, fillT t now) else (0, 0, 0, 0)
set_option maxHeartbeats 2000000 in
theorem specFill_any (r u l t now : Int) (w : World) : Calls Try.prog 12 #[.agg #[.int .i64 r, .int .i64 u, .int .i64 l, .int .i64 t], .int .i64 now] w fun e w' => e = .returned (bkV (fillOf r u l t now)) ∧ Below w.heap.size w w' := by
  unfold fillOf
  cases h1 : bokB r u l t
  · show Calls _ _ _ _ fun e w' => e = .returned (.agg #[.int .i64 0, .int .i64 0, .int .i64 0, .int .i64 0]) ∧ Below w.heap.size w w'
    go_enter Try.func12, Try.ntmps12
    go_wp2_with (first | (go_at_call 55; refine (specBucketOk_any _ _ _ _ _).mono ?_; rintro e w2 ⟨rfl, hb2⟩; rw [h1]; have kc := below_cells4 hb2; have kf := below_frozens4 hb2; have zb := hb2.size; have hbw := start2 hb2; have y1 := size2b hb2; have y0 := Nat.lt_of_succ_lt y1))
    refine bodyPost_ret (results_one rfl _ _ _ [.int .i64 0, .int .i64 0, .int .i64 0, .int .i64 0] rfl (cells_set4 (u0 := .int .i64 0) (u1 := .int .i64 0) (u2 := .int .i64 0) (u3 := .int .i64 0) _ _ _ _ ?_ ?_ ?_ ?_) Try.underlying25 rfl (by kernel_rfl)) rfl ?_
    · go_simp
    · go_simp
    · go_simp
    · go_simp
    exact ⟨rfl, by go_grown⟩
  · cases h2 : timeB now
    · show Calls _ _ _ _ fun e w' => e = .returned (.agg #[.int .i64 0, .int .i64 0, .int .i64 0, .int .i64 0]) ∧ Below w.heap.size w w'
      go_enter Try.func12, Try.ntmps12
      go_wp2_with (first
        | (go_at_call 55; refine (specBucketOk_any _ _ _ _ _).mono ?_; rintro e w2 ⟨rfl, hb2⟩; rw [h1]; have kc := below_cells4 hb2; have kf := below_frozens4 hb2; have zb := hb2.size; have hbw := start2 hb2; have y1 := size2b hb2; have y0 := Nat.lt_of_succ_lt y1)
        | (go_at_call 56; refine (time_any _ _).mono ?_; rintro e w2 ⟨rfl, rfl⟩; rw [h2]))
      refine bodyPost_ret (results_one rfl _ _ _ [.int .i64 0, .int .i64 0, .int .i64 0, .int .i64 0] rfl (cells_set4 (u0 := .int .i64 0) (u1 := .int .i64 0) (u2 := .int .i64 0) (u3 := .int .i64 0) _ _ _ _ ?_ ?_ ?_ ?_) Try.underlying25 rfl (by kernel_rfl)) rfl ?_
      · go_simp
      · go_simp
      · go_simp
      · go_simp
      exact ⟨rfl, by go_grown⟩
    · show Calls _ _ _ _ fun e w' => e = .returned (.agg #[.int .i64 r, .int .i64 u, .int .i64 (fillL r u l t now), .int .i64 (fillT t now)]) ∧ Below w.heap.size w w'
      go_enter Try.func12, Try.ntmps12
      go_wp2_with (first
        | (go_at_call 55; refine (specBucketOk_any _ _ _ _ _).mono ?_; rintro e w2 ⟨rfl, hb2⟩; rw [h1]; have kc := below_cells4 hb2; have kf := below_frozens4 hb2; have zb := hb2.size; have hbw := start2 hb2; have y1 := size2b hb2; have y0 := Nat.lt_of_succ_lt y1)
        | (go_at_call 56; refine (time_any _ _).mono ?_; rintro e w2 ⟨rfl, rfl⟩; rw [h2])
        | (go_at_call 57; refine (l4Fill_any _ h1 h2).mono ?_; rintro e w3 ⟨rfl, hb3⟩; have kc3 := below_cells4 hb3; have kf3 := below_frozens4 hb3; have zb3 := hb3.size; have hbw := below_two hbw hb3))
      refine bodyPost_ret (results_one rfl _ _ _ [.int .i64 r, .int .i64 u, .int .i64 (fillL r u l t now), .int .i64 (fillT t now)] rfl (cells_set4 (u0 := .int .i64 0) (u1 := .int .i64 0) (u2 := .int .i64 0) (u3 := .int .i64 0) _ _ _ _ ?_ ?_ ?_ ?_) Try.underlying25 rfl (by kernel_rfl)) rfl ?_
      · go_simp
      · go_simp
      · go_simp
      · go_simp
      exact ⟨rfl, by go_grown⟩
end Go.Proofs.Ytmophpbfaonfmac
namespace Go.Proofs.Ytmophpbfaonfmac
open Go.ChangeShapes Go.WideShapes Go.ChangeAt Go.RowKit
set_option maxRecDepth 100000
set_option linter.unusedVariables false

end Go.Proofs.Ytmophpbfaonfmac
namespace Go.Proofs.Ytmophpbfaonfmac
open Go.ChangeShapes Go.WideShapes Go.ChangeAt Go.RowKit
set_option maxRecDepth 100000
set_option linter.unusedVariables false

theorem info_bucket : (Try.prog.info? 25).map (fun i => (i.zero, i.size, i.bytes)) = some (some (.agg #[.int .i64 0, .int .i64 0, .int .i64 0, .int .i64 0]), 4, 32) := by kernel_rfl
theorem cellsQ_i_bucket : Try.prog.cellsOf 2 = 1 := by kernel_rfl
end Go.Proofs.Ytmophpbfaonfmac
