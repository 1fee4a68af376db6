/- What impl.LendOk answers. -/
import Derived.Test.YtmophpbfaonfmacImplRight
namespace Go.Proofs.Ytmophpbfaonfmac
open Go.ChangeShapes Go.WideShapes Go.ChangeAt Go.RowKit
set_option maxRecDepth 100000
set_option linter.unusedVariables false
set_option linter.unusedSimpArgs false

theorem done_kept {w w3 : World} (h : Below (w.alloc (.cells #[.bool false] 4)).heap.size (w.alloc (.cells #[.bool false] 4)) w3) : w3.cell? ⟨w.heap.size, 0, none⟩ = some (.bool false) ∧ w3.frozen? ⟨w.heap.size, 0, none⟩ = false :=
  ⟨(below_cells h _ _ (by simp)).trans (by go_simp), (below_frozens h _ _ (by simp)).trans (by go_simp)⟩
theorem att_yes {K : Nat} {caps : Array Value} (w : World) (hent : ∀ args w, (callFunc K args).run Try.prog w = .ok (.enter K args) w)
    (hk : Calls Try.prog K caps (w.alloc (.cells #[.bool false] 4)) fun e w' => e = .returned (.tuple #[]) ∧ Below (w.alloc (.cells #[.bool false] 4)).heap.size (w.alloc (.cells #[.bool false] 4)) w') :
    Calls Try.prog 95 #[.func (.func K) #[] caps] w fun e w' => e = .returned (.bool true) ∧ Below w.heap.size w w' := by
  refine (attempt_yes w hent (R := fun w' => Below (w.alloc (.cells #[.bool false] 4)).heap.size (w.alloc (.cells #[.bool false] 4)) w') (hk.mono fun e w' h => ⟨h.1, h.2, done_kept h.2⟩)).mono ?_
  rintro e w' ⟨rfl, W, hW, rfl⟩
  exact ⟨rfl, ((below_two (new_below _ _) hW).setCell (by simp) _).setCell (by simp) _⟩
theorem att_no {K : Nat} {caps : Array Value} (w : World) (hent : ∀ args w, (callFunc K args).run Try.prog w = .ok (.enter K args) w)
    (hk : Calls Try.prog K caps (w.alloc (.cells #[.bool false] 4)) fun e w' => e = gaveUp ∧ Below (w.alloc (.cells #[.bool false] 4)).heap.size (w.alloc (.cells #[.bool false] 4)) w') :
    Calls Try.prog 95 #[.func (.func K) #[] caps] w fun e w' => e = .returned (.bool false) ∧ Below w.heap.size w w' := by
  refine (attempt_no w hent (R := fun w' => Below (w.alloc (.cells #[.bool false] 4)).heap.size (w.alloc (.cells #[.bool false] 4)) w') (hk.mono fun e w' h => ⟨h.1, h.2, done_kept h.2⟩)).mono ?_
  rintro e w' ⟨rfl, W, hW, rfl⟩
  exact ⟨rfl, (below_two (new_below _ _) hW).setCell (by simp) _⟩
theorem lendOk1_yes {w : World} {b : Nat} {aT aO aP : Option Addr} (cT cO cP : Nat) {T O P : List Q4} (hf : lendB T O P = true) (hc : Cells w [(b, 0, .slice aT T.length cT), (b, 1, .slice aO O.length cO), (b, 2, .slice aP P.length cP)]) (hT : Quad w.heap.size w aT T) (hO : Quad w.heap.size w aO O) (hP : Quad w.heap.size w aP P) :
    Calls Try.prog 105 #[.pointer (some ⟨b, 0, none⟩)] w fun e w' => e = .returned (.tuple #[]) ∧ Below w.heap.size w w' := by
  have ⟨⟨_, k0⟩, ⟨_, k1⟩, ⟨_, k2⟩, _⟩ := hc
  go_enter Try.func105, Try.ntmps105
  go_wp2_with (first | (go_at_call 106; refine (right_yes cT cO cP hf hT hO hP).mono ?_; rintro e w2 ⟨rfl, hb2⟩))
  go_end0
  exact ⟨rfl, hb2⟩
theorem lendOk1_no {w : World} {b : Nat} {aT aO aP : Option Addr} (cT cO cP : Nat) {T O P : List Q4} (hf : lendB T O P = false) (hc : Cells w [(b, 0, .slice aT T.length cT), (b, 1, .slice aO O.length cO), (b, 2, .slice aP P.length cP)]) (hT : Quad w.heap.size w aT T) (hO : Quad w.heap.size w aO O) (hP : Quad w.heap.size w aP P) :
    Calls Try.prog 105 #[.pointer (some ⟨b, 0, none⟩)] w fun e w' => e = gaveUp ∧ Below w.heap.size w w' := by
  have ⟨⟨_, k0⟩, ⟨_, k1⟩, ⟨_, k2⟩, _⟩ := hc
  go_enter Try.func105, Try.ntmps105
  go_wp2_with (first | (go_at_call 106; refine (right_no cT cO cP hf hT hO hP).mono ?_; rintro e w2 ⟨rfl, hb2⟩))
  exact ⟨rfl, rfl, hb2⟩
theorem iLendOk_any {w : World} {aT aO aP : Option Addr} (cT cO cP : Nat) {T O P : List Q4} (hT : Quad w.heap.size w aT T) (hO : Quad w.heap.size w aO O) (hP : Quad w.heap.size w aP P) :
    Calls Try.prog 49 #[lendV aT T.length cT aO O.length cO aP P.length cP] w fun e w' => e = .returned (.bool (lendB T O P)) ∧ Below w.heap.size w w' := by
  have hmf : ∀ (fn : Fn) (first cap : Array Value) (w : World), (Instr.makeFunc fn first cap).run Try.prog w = .ok (.func fn first cap) w := fun _ _ _ _ => rfl
  have hent : ∀ args w, (callFunc 105 args).run Try.prog w = .ok (.enter 105 args) w := enters_of Try.func105 (by kernel_rfl) rfl
  have nb : Below w.heap.size w (w.alloc (.cells #[.slice aT T.length cT, .slice aO O.length cO, .slice aP P.length cP] 64)) := new_below _ _
  have nb2 : Below w.heap.size w ((w.alloc (.cells #[.slice aT T.length cT, .slice aO O.length cO, .slice aP P.length cP] 64)).alloc (.cells #[.bool false] 4)) := by go_grown
  have hc : Cells ((w.alloc (.cells #[.slice aT T.length cT, .slice aO O.length cO, .slice aP P.length cP] 64)).alloc (.cells #[.bool false] 4)) [(w.heap.size, 0, .slice aT T.length cT), (w.heap.size, 1, .slice aO O.length cO), (w.heap.size, 2, .slice aP P.length cP)] := ⟨⟨by simp <;> omega, by go_simp⟩, ⟨by simp <;> omega, by go_simp⟩, ⟨by simp <;> omega, by go_simp⟩, trivial⟩
  cases hf : lendB T O P
  · have hk := att_no _ hent (lendOk1_no cT cO cP hf hc (hT.here nb2) (hO.here nb2) (hP.here nb2))
    clear hc hent
    go_enter Try.func49, Try.ntmps49
    go_wp2_with (first | (go_at_call 95; refine hk.mono ?_; clear hk; rintro e w2 ⟨rfl, hb2⟩))
    go_ret
    exact ⟨rfl, below_two nb hb2⟩
  · have hk := att_yes _ hent (lendOk1_yes cT cO cP hf hc (hT.here nb2) (hO.here nb2) (hP.here nb2))
    clear hc hent
    go_enter Try.func49, Try.ntmps49
    go_wp2_with (first | (go_at_call 95; refine hk.mono ?_; clear hk; rintro e w2 ⟨rfl, hb2⟩))
    go_ret
    exact ⟨rfl, below_two nb hb2⟩
end Go.Proofs.Ytmophpbfaonfmac
