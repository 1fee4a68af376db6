/- slices.Clone at classes, and impl.fullLend: all buckets full. -/
import Derived.Test.YtdgefdjgpneanadImplRight
import Derived.Test.YtdgefdjgpneanadGrpO
import Derived.Test.YtdgefdjgpneanadLate
namespace Go.Proofs.Ytdgefdjgpneanad
open Go.ChangeShapes Go.WideShapes Go.ChangeAt Go.RowKit
set_option maxRecDepth 100000
set_option linter.unusedVariables false
set_option linter.unusedSimpArgs false

/-- A Lend made anew. -/
def LendPost (w : World) (T O P : List Q4) (e : Ending) (w' : World) : Prop := ∃ a1 n1 c1 a2 n2 c2 a3 n3 c3, e = .returned (lendV a1 n1 c1 a2 n2 c2 a3 n3 c3) ∧ LV w' w.heap.size (.slice a1 n1 c1) (.slice a2 n2 c2) (.slice a3 n3 c3) T O P ∧ Below w.heap.size w w'
def RowQ (w : World) (N : List Q4) (e : Ending) (w' : World) : Prop := ∃ v, e = .returned v ∧ w'.ownsRow w.heap.size 34 4 v N.length (flatQ N) ∧ Below w.heap.size w w'
set_option maxHeartbeats 2000000 in
theorem cloneC_any {w : World} {b off : Nat} (cap : Nat) {xs : List Q4} (h : Quad w.heap.size w (some ⟨b, off, none⟩) xs) (hl : xs.length ≤ 1000) :
    Calls Try.prog 106 #[.slice (some ⟨b, off, none⟩) xs.length cap] w (RowQ w xs) := by
  obtain ⟨i0, hi, hz0, hz1, hz2⟩ := info_parts info_class
  have q : ∀ (w : World) (a : Option Addr) (n c n' c' : Nat), (binOp .eql 24 (.slice a n c) (.slice none n' c')).run Try.prog w = .ok (.bool a.isNone) w := fun w a n c n' c' => Lib.run_eql_slice_nil w _ _ a n c n' c' Try.underlying24
  have A : Hid (∀ j u, (flatQ xs)[j]? = some u → (w.alloc (.cells #[] 34)).cell? ((⟨b, off, none⟩ : Addr).add j) = some u) := quad_news (h.here (new_below _ _))
  go_enter Try.func106, Try.ntmps106
  go_wp2_with (at_builtin; refine wpList_append_own _ rfl _ _ 24 rfl w.heap.size 34 i0 _ 4 32 Try.underlying24 hi hz0 hz1 hz2 rfl (by decide) _ 0 [] rfl (own_noneQ w _ (Nat.le_refl _) _) ⟨b, off, none⟩ xs.length cap (flatQ xs) rfl (flatQ_length xs) A.out (flatQ_cell xs) (by unfold maxLen; omega) (by omega) (by simp) ?_; intro v' w1 hown hgr hnil)
  go_ret
  exact ⟨v', rfl, by simpa using hown, ((Below.refl _ w).alloc (Nat.le_refl _) _).grown hgr (by simp) (fun k hk => Nat.le_of_eq (Option.some.inj hk))⟩
theorem zero3 (w : World) : Kept w [(w.heap.size, 0, .slice none 0 0), (w.heap.size, 1, .slice none 0 0), (w.heap.size, 2, .slice none 0 0)] [w.heap.size] (w.alloc (.cells #[.slice none 0 0, .slice none 0 0, .slice none 0 0] 27)) :=
  ⟨⟨⟨by simp, by go_simp⟩, ⟨by simp, by go_simp⟩, ⟨by simp, by go_simp⟩, trivial⟩, (fun b hb => by rw [show b = w.heap.size by simpa using hb]; exact ⟨by simp, fun o => by go_simp⟩), new_below _ _⟩
/-- The answer's place is there; the tree has been cloned; the Lend's variable is laid. -/
theorem nl_start {w w2 w3 : World} {aV : Option Addr} {cV : Nat} {T : List Q4} (k : Kept w [(w.heap.size, 0, .slice none 0 0), (w.heap.size, 1, .slice none 0 0), (w.heap.size, 2, .slice none 0 0)] [w.heap.size] w2) (hs : w.heap.size + 1 ≤ w2.heap.size) (ho : w3.ownsRow w2.heap.size 34 4 (.slice aV T.length cV) T.length (flatQ T)) (hb : Below w2.heap.size w2 w3) :
    NlSt w (w3.alloc (.cells #[.slice aV T.length cV, .slice none 0 0, .slice none 0 0] 27)) w3.heap.size (.slice aV T.length cV) (.slice none 0 0) (.slice none 0 0) T [] [] := by
  have K5 := (k.next hb).next (new_below w3 (.cells #[.slice aV T.length cV, .slice none 0 0, .slice none 0 0] 27))
  obtain ⟨⟨e0, e1, e2, _⟩, hf, hbb⟩ := K5
  have hz := hb.size
  refine ⟨⟨⟨e0, e1, e2, ⟨by simp, by go_simp⟩, ⟨by simp, by go_simp⟩, ⟨by simp, by go_simp⟩, trivial⟩, (fun b hb => by simp only [List.mem_cons, List.not_mem_nil, or_false] at hb; rcases hb with rfl | rfl; exact hf _ (List.mem_singleton.2 rfl); exact ⟨by simp, fun o => by go_simp⟩), hbb⟩, row_lowC (ho.alloc _) hs, World.ownsRow_nil _ _ _ _, World.ownsRow_nil _ _ _ _, (fun g e => by cases e), by omega, by simp, (fun e => by have := (ho.lt _ e).2; omega), (fun e => by cases e), (fun e => by cases e)⟩
/-- A class in a variable of its own stays there while a row grows, and while the Lend's variable is stored into. -/
theorem side_row {W W' : World} {c : Nat} {row : Option Nat} {u0 u1 u2 : Value} (hc : Cells W [(c, 1, u0), (c, 2, u1), (c, 3, u2)]) (hg : W.grownBy W' row) (h1 : row ≠ some c) : Cells W' [(c, 1, u0), (c, 2, u1), (c, 3, u2)] := by
  refine Cells.onlyO (OnlyO.of_grown hg) (fun x hx e => ?_) hc
  simp only [List.mem_cons, List.not_mem_nil, or_false] at hx
  rcases hx with rfl | rfl | rfl <;> exact h1 e
theorem cls_good {T : List Q4} (htr : IsTree T) : ∀ k (h : k < T.length), rateB T[k].2.1 = true ∧ rateB T[k].2.2.1 = true ∧ winB T[k].2.2.2 = true := fun k h => by
  have hk := htr.sound.cls k h
  unfold clsB at hk
  simp only [Bool.and_eq_true] at hk
  refine ⟨hk.1.1.1.1, hk.1.1.1.2, ?_⟩
  have hu := hk.2
  unfold burB at hu
  unfold winB
  rw [Bool.and_eq_true] at hu ⊢
  have := of_decide_eq_true hu.1
  exact ⟨decide_eq_true (by omega), hu.2⟩
end Go.Proofs.Ytdgefdjgpneanad
