/- impl.Push's helpers: what goes from the front, the copy. -/
import Derived.Test.YtiibafphgjlffaeImplPushA
import Derived.Lib.SliceRun
namespace Go.Proofs.Ytiibafphgjlffae
open Go.ChangeShapes Go.WideShapes Go.ChangeAt Go.RowKit
set_option maxRecDepth 100000
set_option linter.unusedVariables false
set_option linter.unusedSimpArgs false

def WfPost (w : World) (b off : Nat) (t : Int) (M : List (Int × Int)) (e : Ending) (w' : World) : Prop := ∃ d, e = .returned (.slice (some ⟨b, off + d * 2, none⟩) (M.length - d) (M.length - d)) ∧ d < M.length ∧ youngOf t M = M.drop d ∧ Below w.heap.size w w'
set_option maxHeartbeats 2000000 in
theorem wfirst_any {w : World} {b off cap bs bw : Nat} {M : List (Int × Int)} {p win : Int} (h : Smp w.heap.size w (some ⟨b, off, none⟩) M) (hl0 : 0 < M.length) (hl : M.length ≤ 101) (hlc : M.length ≤ cap)
    (c1 : w.cell? ⟨bs, 0, none⟩ = some (.int .i64 p)) (cm : w.cell? ⟨bw, 0, none⟩ = some (.int .i64 win)) (h1 : bs < w.heap.size) (h2 : bw < w.heap.size) (hpw : IntKind.i64.wrap (p - win) = p - win) :
    Calls Try.prog 121 #[.slice (some ⟨b, off, none⟩) M.length cap, .func (.func 122) #[] #[.pointer (some ⟨bs, 0, none⟩), .pointer (some ⟨bw, 0, none⟩)]] w (WfPost w b off (p - win) M) := by
  obtain ⟨L, hL⟩ : ∃ L, M.length = L + 1 := ⟨M.length - 1, by omega⟩
  have HL : Hid (M.length = L + 1) := hL
  have hLw : IntKind.i64.wrap ((M.length : Int) - 1) = (L : Int) := by rw [IntKind.wrap_i64]; omega
  clear hL
  go_enter Try.func121, Try.ntmps121
  go_wp2
  go_loopw [5] (fun i wr => ∃ d : Nat, i = .int .i64 d ∧ d ≤ L ∧ youngOf (p - win) (M.drop d) = youngOf (p - win) M ∧ Below w.heap.size w wr) (fun i _ => L - (intOf i).toNat)
  case atStart => exact ⟨0, rfl, by omega, rfl, Below.refl _ _⟩
  case round =>
    obtain ⟨d, rfl, hd, hyo, hwr⟩ := hrel
    have d1 := (below_cells hwr _ _ h1).trans c1
    have dm := (below_cells hwr _ _ h2).trans cm
    have zr := hwr.size
    by_cases hdL : d < L
    · have hj : d < M.length := by have := HL.out; omega
      obtain ⟨e0, e1⟩ := h.cells hwr d hj
      have hb : b < wr.heap.size := by
        obtain ⟨b', off', e, hb, _⟩ := h d hj
        cases e
        omega
      obtain ⟨x, hx⟩ : ∃ x, M[d] = x := ⟨_, rfl⟩
      rw [hx] at e0 e1
      obtain ⟨y, z⟩ := x
      have HX : Hid (M[d] = (y, z)) := hx
      clear hx
      simp only at e0 e1
      have hj1 : (d : Int) < (M.length : Int) := by omega
      have hj2 : (d : Int) < (L : Int) := by omega
      have ho : oldB (p - win) (M.drop d) = decide (y < p - win) := by
        obtain ⟨m, rfl⟩ : ∃ m, L = d + (m + 1) := ⟨L - d - 1, by omega⟩
        exact old_more (m := m) (by have := HL.out; omega) hj (by rw [HX.out])
      have HO : Hid (oldB (p - win) (M.drop d) = decide (y < p - win)) := ho
      clear ho
      by_cases hyt : y < p - win
      · go_wp2_with (first
          | (go_at_call 122; refine (clo2_any y z p win d1 dm (by omega) (by omega) hpw).mono ?_; rintro e w2 ⟨rfl, hb2⟩; have hw2 := below_step hwr hb2))
        go_roundw
        case rel => exact ⟨d + 1, by go_num, by omega, young_next (by rw [HO.out]; exact decide_eq_true hyt) hyo, hw2⟩
        case measure => first | (simp [intOf]; done) | (simp [intOf]; omega)
      · go_wp2_with (first
          | (go_at_call 122; refine (clo2_any y z p win d1 dm (by omega) (by omega) hpw).mono ?_; rintro e w2 ⟨rfl, hb2⟩; have hw2 := below_step hwr hb2)
          | (go_at_call 123; refine (cuts_any b off _ cap d M.length _ hj hlc).mono ?_; rintro e w3 ⟨rfl, rfl⟩))
        go_ret
        exact ⟨d, rfl, hj, by rw [← hyo]; exact young_stay (by rw [HO.out]; exact decide_eq_false (by omega)), hw2⟩
    · obtain rfl : d = L := by omega
      have hj : d < M.length := by have := HL.out; omega
      go_wp2_with (first
        | (go_at_call 123; refine (cuts_any b off _ cap d M.length _ hj hlc).mono ?_; rintro e w3 ⟨rfl, rfl⟩))
      go_ret
      exact ⟨d, rfl, hj, by rw [← hyo]; exact young_stay (old_one HL.out.symm), hwr⟩
theorem smp_news {B : Nat} {w : World} {b off : Nat} {N : List (Int × Int)} (h : Smp B w (some ⟨b, off, none⟩) N) : ∀ j v, (flat N)[j]? = some v → w.cell? ((⟨b, off, none⟩ : Addr).add j) = some v := by
  intro j v hv
  have hj : j < (flat N).length := (List.getElem?_eq_some_iff.1 hv).1
  rw [flat_length] at hj
  have e : (⟨b, off, none⟩ : Addr).add j = ⟨b, off + j, none⟩ := by unfold Addr.add; split <;> simp_all
  rw [e]
  have hi : j / 2 < N.length := by omega
  obtain ⟨h0, h1⟩ := flat_get N (j / 2) hi
  obtain ⟨c0, c1⟩ := h.cells (Below.refl _ _) (j / 2) hi
  rcases Nat.mod_two_eq_zero_or_one j with h | h
  · rw [show j / 2 * 2 = j by omega, hv] at h0
    rw [h0, show off + j = off + j / 2 * 2 by omega]
    exact c0
  · rw [show j / 2 * 2 + 1 = j by omega, hv] at h1
    rw [h1, show off + j = off + j / 2 * 2 + 1 by omega]
    exact c1
def ClPost (w : World) (N : List (Int × Int)) (e : Ending) (w' : World) : Prop := ∃ g cap, e = .returned (.slice (some ⟨g, 0, none⟩) N.length cap) ∧ w.heap.size ≤ g ∧ g < w'.heap.size ∧ Fill w' g N.length N N.length ∧ N.length ≤ cap ∧ Below w.heap.size w w'
set_option maxHeartbeats 2000000 in
theorem clone_any {w : World} {b off c n : Nat} {N : List (Int × Int)} (h : Smp w.heap.size w (some ⟨b, off, none⟩) N) (hl : N.length ≤ 101) (hn : N.length = n) :
    Calls Try.prog 124 #[.slice (some ⟨b, off, none⟩) n c] w (ClPost w N) := by
  obtain ⟨i0, hi, hz0, hz1, hz2⟩ := info_parts info_smp
  have HW : Hid (∀ x, Below w.heap.size w x → ∀ j v, (flat N)[j]? = some v → x.cell? ((⟨b, off, none⟩ : Addr).add j) = some v) := fun x hx => smp_news (h.mono hx)
  have qn : ∀ (w : World) (a : Option Addr) (n c n' c' : Nat), (binOp .eql 117 (.slice a n c) (.slice none n' c')).run Try.prog w = .ok (.bool a.isNone) w := fun w a n c n' c' => Lib.run_eql_slice_nil w _ _ a n c n' c' Try.underlying117
  subst hn
  go_enter Try.func124, Try.ntmps124
  go_wp2_with (first
    | (at_builtin; refine wpList_append_own _ rfl _ _ 117 rfl w.heap.size 87 i0 _ 2 16 Try.underlying117 hi hz0 hz1 hz2 rfl (by decide) (.slice (some ⟨w.heap.size, 0, none⟩) 0 0) 0 [] rfl (own_empty w _) ⟨b, off, none⟩ N.length c (flat N) rfl (flat_length N) ?e1 ?e2 ?e3 ?e4 ?e5 ?e6; rotate_left 5; intro v7 w7 hown7 hgr hnil; have hvn7 : v7 ≠ .slice none 0 0 := (fun e => absurd (hnil.1 e).1 (by intro e; cases e)); obtain ⟨g7, cap7, rfl, hg70, hg71, f7, hc7⟩ := own_fill (xs := N) (by simpa using hown7) hvn7; have hb7 := ((Below.refl w.heap.size w).alloc (Nat.le_refl _) (.cells #[] 87)).grown hgr (by simp) (fun g hg => (by cases hg; exact Nat.le_refl _))))
  case e1 => exact HW.out _ (by go_grown)
  case e2 => exact flat_one' N
  case e3 => unfold maxLen; omega
  case e4 => omega
  case e5 => simp
  go_ret
  exact ⟨g7, cap7, rfl, hg70, hg71, f7, hc7, hb7⟩
end Go.Proofs.Ytiibafphgjlffae
