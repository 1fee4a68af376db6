/- Proved: whatever the bytes, the law FnRetreed returns true (at the Lend, the tree and the time that the model draws of them impl.Retree answers as spec's does, and impl.Bound as spec's at another Lend; what is refused is the zero Lend; what is taken has the new tree, no bucket with more than its new burst, and is right), and the bytes read as before; no condition. -/
import Derived.Test.YtmophpbfaonfmadRows
import Derived.WalkKit
import Derived.ProofKit
import Derived.OpenShut
import Derived.ShutString
import Derived.ChangeOld
import Derived.Below
import Derived.Test.YtmophpbfaonfmadRetreeBoth
import Derived.Test.YtmophpbfaonfmadRetLaw
import Derived.Test.YtmophpbfaonfmadLikeL
import Derived.Test.YtmophpbfaonfmadDraw7i
import Derived.Test.YtmophpbfaonfmadImplBound
import Derived.Test.YtmophpbfaonfmadSpecBound
import Derived.Test.YtmophpbfaonfmadImplLendOk
import Derived.Deep.RegionHeld3
import Derived.Deep.DeepCutAuto
import Derived.BigQuiet
namespace Go.Proofs.Ytmophpbfaonfmad.fnRetreed
open Go.ChangeShapes Go.WideShapes Go.ChangeAt Go.RowKit
open Go.ChangeMaps (open_string shut_string)
set_option linter.unusedVariables false

theorem own : ownKnob Try.prog.godebug = none := by kernel_rfl
theorem laidOut : laidOutB Try.prog = true := by kernel_rfl

/-- WHAT THE WALK IS TOLD OF A SLICE OF INTEGERS THAT CAME IN: it is nil; or it leads to a row of 'cap' cells, the numbers 'zs' (the first 'len' are its elements, the rest its spare room), each fitting its kind. -/
def IsRow (k : IntKind) (w : World) (a : Option Addr) (len cap : Nat) (zs : List Int) : Prop :=
  (a = none ∧ len = 0 ∧ cap = 0 ∧ zs = []) ∨
  ∃ x, a = some x ∧ len ≤ cap ∧ cap ≤ maxLen ∧ zs.length = cap ∧ (∀ i, i < zs.length → w.cell? (x.add i) = some (.int k (zs.getD i 0))) ∧ ∀ n ∈ zs, (Lit.int k n).wf = true

set_option linter.unusedSimpArgs false
set_option maxRecDepth 100000
theorem row_of {w : World} {a : Option Addr} {len cap : Nat} {zs : List Int} (h : IsRow .u8 w a len cap zs) : Row w.heap.size a len w := by
  intro i hi
  rcases h with ⟨rfl, rfl, rfl, rfl⟩ | ⟨x, rfl, hl, hm, hz, hcell, hwz⟩
  · omega
  · obtain ⟨b, off, spot⟩ := x
    have hspot : spot = none := by simpa [Addr.add] using World.cell?_spot (hcell 0 (by omega))
    subst hspot
    have hc := hcell i (by omega)
    have hc' : w.cell? ⟨b, off + i, none⟩ = some (.int .u8 (zs.getD i 0)) := by
      by_cases h0 : i = 0
      · subst h0; simpa [Addr.add] using hc
      · simpa [Addr.add, h0] using hc
    have hlt : i < zs.length := by omega
    have hm : zs.getD i 0 ∈ zs := by simp [List.getD, List.getElem?_eq_getElem hlt]
    obtain ⟨z0, z1⟩ := bounds_u8 (hwz _ hm)
    exact ⟨b, off, zs.getD i 0, rfl, World.block_lt_of_cell? w _ hc', hc', z0, z1⟩

/-! ### STEP 1: THE WALK: the Go text returns true, AND WRITES NOTHING THAT WAS THERE: 'Below w.heap.size w w'' (Derived/Below.lean: '.refl', '.alloc', '.drew', '.setCell' at a new block, '.trans'). Open each 'IsRow' by 'rcases' AHEAD of 'go_enter'; part every test ahead of the walk. -/
set_option maxHeartbeats 32000000 in
theorem walk (a0 : Option Addr) (len0 cap0 : Nat) (z0 : List Int) (w : World) (w0 : IsRow .u8 w a0 len0 cap0 z0) :
    Calls Try.prog 4 #[.slice a0 len0 cap0] w fun e w' => e = .returned (.bool true) ∧ Below w.heap.size w w' := by
  have row := row_of w0
  by_cases hs : len0 ≤ 4096
  · go_enter Try.func4, Try.ntmps4
    go_upto_region 4 with (first
      | (go_at_call 15; refine (drawRetree_any cap0 hs row (Nat.le_refl _)).mono ?_; rintro e vD ⟨aT, cT, aO, cO, aP, cP, T, O, P, aS, cS, S, now, rfl, ⟨QT, QO, QP, QS⟩, ⟨lT, lO, lP, lS⟩, hbw⟩)
      | go_in)
    have C : Hid (Cells vD []) := trivial
    obtain ⟨v3, hv⟩ : ∃ v, v = vD.alloc (.cells #[.slice aT T.length cT, .slice aO O.length cO, .slice aP P.length cP] 27) := ⟨_, rfl⟩
    rw [← hv]
    have hbA : Below vD.heap.size vD v3 := by rw [hv]; exact new_below _ _
    have cA0 : v3.cell? ⟨vD.heap.size, 0, none⟩ = some (.slice aT T.length cT) := by rw [hv]; go_simp
    have cA1 : v3.cell? ⟨vD.heap.size, 1, none⟩ = some (.slice aO O.length cO) := by rw [hv]; go_simp
    have cA2 : v3.cell? ⟨vD.heap.size, 2, none⟩ = some (.slice aP P.length cP) := by rw [hv]; go_simp
    have zA : vD.heap.size < v3.heap.size := by rw [hv]; simp
    clear hv
    obtain ⟨b3, hb3⟩ : ∃ b, b = vD.heap.size := ⟨_, rfl⟩
    rw [← hb3] at cA0 cA1 cA2 ⊢
    have yb3 : b3 < v3.heap.size := by omega
    clear hb3
    have hbw := below_step hbw hbA
    have C : Hid (Cells v3 [(b3, 0, .slice aT T.length cT), (b3, 1, .slice aO O.length cO), (b3, 2, .slice aP P.length cP)]) := by
      obtain ⟨_⟩ := C.out.next hbA
      exact ⟨⟨yb3, cA0⟩, ⟨yb3, cA1⟩, ⟨yb3, cA2⟩, trivial⟩
    have ⟨⟨kz0, k0⟩, ⟨kz1, k1⟩, ⟨kz2, k2⟩, _⟩ := C.out
    have QT := QT.here hbA
    have QO := QO.here hbA
    have QP := QP.here hbA
    have QS := QS.here hbA
    have zw := hbw.size
    clear cA0 cA1 cA2 zA hbA
    cases hm : movB T O P S now
    · skip
      obtain ⟨YT, hYT⟩ : ∃ Y, retT T O P S now = Y := ⟨_, rfl⟩
      obtain ⟨YO, hYO⟩ : ∃ Y, retO T O P S now = Y := ⟨_, rfl⟩
      obtain ⟨YP, hYP⟩ : ∃ Y, retP T O P S now = Y := ⟨_, rfl⟩
      have hlens : YT.length ≤ 30 ∧ YO.length ≤ 30 ∧ YP.length ≤ 30 := by rw [← hYT, ← hYO, ← hYP]; exact ret_lengths T O P S now
      have lYT := hlens.1
      have lYO := hlens.2.1
      have lYP := hlens.2.2
      clear hlens
      have HI : Hid (∀ (w : World) (aT aO aP aS : Option Addr) (cT cO cP cS : Nat), Quad w.heap.size w aT T → Quad w.heap.size w aO O → Quad w.heap.size w aP P → Quad w.heap.size w aS S → Calls Try.prog 16 #[lendV aT T.length cT aO O.length cO aP P.length cP, .slice aS S.length cS, .int .i64 now] w (NewPost w YT YO YP false)) := fun w aT aO aP aS cT cO cP cS h1 h2 h3 h4 => by
        have h' := iRetree_any cT cO cP cS now h1 h2 h3 h4
        rw [hYT, hYO, hYP, hm] at h'
        exact h'
      have HS : Hid (∀ (w : World) (aT aO aP aS : Option Addr) (cT cO cP cS : Nat), Quad w.heap.size w aT T → Quad w.heap.size w aO O → Quad w.heap.size w aP P → Quad w.heap.size w aS S → Calls Try.prog 17 #[lendV aT T.length cT aO O.length cO aP P.length cP, .slice aS S.length cS, .int .i64 now] w (NewPost w YT YO YP false)) := fun w aT aO aP aS cT cO cP cS h1 h2 h3 h4 => by
        have h' := specRetree_any cT cO cP cS now h1 h2 h3 h4
        rw [hYT, hYO, hYP, hm] at h'
        exact h'
      have HE : Hid (YT = [] ∧ YO = [] ∧ YP = []) := by
        rw [← hYT, ← hYO, ← hYP]
        unfold retT retO retP
        rw [hm]
        exact ⟨rfl, rfl, rfl⟩
      have HL2 : Hid (∀ (w : World) (xT xO xP : Option Addr) (dT dO dP : Nat), Quad w.heap.size w xT YT → Quad w.heap.size w xO YO → Quad w.heap.size w xP YP → Calls Try.prog 18 #[lendV xT YT.length dT xO YO.length dO xP YP.length dP, .agg #[.slice none 0 0, .slice none 0 0, .slice none 0 0]] w fun e w' => e = .returned (.bool true) ∧ Below w.heap.size w w') := fun w xT xO xP dT dO dP h1 h2 h3 => by
        obtain ⟨e1, e2, e3⟩ := HE.out
        subst e1 e2 e3
        exact likeL_same (aT2 := none) (aO2 := none) (aP2 := none) dT dO dP 0 0 0 h1 h2 h3 (Quad.nil _ _ _) (Quad.nil _ _ _) (Quad.nil _ _ _) (by simp) (by simp) (by simp)
      clear hYT hYO hYP hm
      go_upto_region 5 with (first
        | (go_at_call 16; refine (HI.out _ _ _ _ _ _ _ _ _ (QT.here (by go_grown)) (QO.here (by go_grown)) (QP.here (by go_grown)) (QS.here (by go_grown))).mono ?_; rintro e vI ⟨xT, n1, dT, xO, n2, dO, xP, n3, dP, rfl, lv, hbP⟩; obtain ⟨e1, XT⟩ := lv.t.quad; obtain ⟨e2, XO⟩ := lv.o.quad; obtain ⟨e3, XP⟩ := lv.p.quad; subst e1 e2 e3; clear lv; have hbw := below_step (w := w) (by go_grown) hbP; have C : Hid (Cells vI [(b3, 0, .slice aT T.length cT), (b3, 1, .slice aO O.length cO), (b3, 2, .slice aP P.length cP)]) := C.out.next (below_step (by go_grown) hbP); have ⟨⟨kz0, k0⟩, ⟨kz1, k1⟩, ⟨kz2, k2⟩, _⟩ := C.out; have QT := QT.here (below_step (by go_grown) hbP); have QO := QO.here (below_step (by go_grown) hbP); have QP := QP.here (below_step (by go_grown) hbP); have QS := QS.here (below_step (by go_grown) hbP); have zw := hbw.size))
      obtain ⟨v6, hv⟩ : ∃ v, v = vI.alloc (.cells #[.slice xT YT.length dT, .slice xO YO.length dO, .slice xP YP.length dP] 27) := ⟨_, rfl⟩
      rw [← hv]
      have hbA : Below vI.heap.size vI v6 := by rw [hv]; exact new_below _ _
      have cA0 : v6.cell? ⟨vI.heap.size, 0, none⟩ = some (.slice xT YT.length dT) := by rw [hv]; go_simp
      have cA1 : v6.cell? ⟨vI.heap.size, 1, none⟩ = some (.slice xO YO.length dO) := by rw [hv]; go_simp
      have cA2 : v6.cell? ⟨vI.heap.size, 2, none⟩ = some (.slice xP YP.length dP) := by rw [hv]; go_simp
      have zA : vI.heap.size < v6.heap.size := by rw [hv]; simp
      clear hv
      obtain ⟨b6, hb6⟩ : ∃ b, b = vI.heap.size := ⟨_, rfl⟩
      rw [← hb6] at cA0 cA1 cA2 ⊢
      have yb6 : b6 < v6.heap.size := by omega
      clear hb6
      have hbw := below_step hbw hbA
      have C : Hid (Cells v6 [(b3, 0, .slice aT T.length cT), (b3, 1, .slice aO O.length cO), (b3, 2, .slice aP P.length cP), (b6, 0, .slice xT YT.length dT), (b6, 1, .slice xO YO.length dO), (b6, 2, .slice xP YP.length dP)]) := by
        obtain ⟨c0, c1, c2, _⟩ := C.out.next hbA
        exact ⟨c0, c1, c2, ⟨yb6, cA0⟩, ⟨yb6, cA1⟩, ⟨yb6, cA2⟩, trivial⟩
      have ⟨⟨kz0, k0⟩, ⟨kz1, k1⟩, ⟨kz2, k2⟩, ⟨kz3, k3⟩, ⟨kz4, k4⟩, ⟨kz5, k5⟩, _⟩ := C.out
      have QT := QT.here hbA
      have QO := QO.here hbA
      have QP := QP.here hbA
      have QS := QS.here hbA
      have XT := XT.here hbA
      have XO := XO.here hbA
      have XP := XP.here hbA
      have zw := hbw.size
      clear cA0 cA1 cA2 zA hbA
      go_upto_region 6 with (first
        | (go_at_call 17; refine (HS.out _ _ _ _ _ _ _ _ _ (QT.here (by go_grown)) (QO.here (by go_grown)) (QP.here (by go_grown)) (QS.here (by go_grown))).mono ?_; rintro e vS ⟨uT, n1, eT, uO, n2, eO, uP, n3, eP, rfl, lv, hbP⟩; obtain ⟨e1, UT⟩ := lv.t.quad; obtain ⟨e2, UO⟩ := lv.o.quad; obtain ⟨e3, UP⟩ := lv.p.quad; subst e1 e2 e3; clear lv; have hbw := below_step (w := w) (by go_grown) hbP; have C : Hid (Cells vS [(b3, 0, .slice aT T.length cT), (b3, 1, .slice aO O.length cO), (b3, 2, .slice aP P.length cP), (b6, 0, .slice xT YT.length dT), (b6, 1, .slice xO YO.length dO), (b6, 2, .slice xP YP.length dP)]) := C.out.next (below_step (by go_grown) hbP); have ⟨⟨kz0, k0⟩, ⟨kz1, k1⟩, ⟨kz2, k2⟩, ⟨kz3, k3⟩, ⟨kz4, k4⟩, ⟨kz5, k5⟩, _⟩ := C.out; have QT := QT.here (below_step (by go_grown) hbP); have QO := QO.here (below_step (by go_grown) hbP); have QP := QP.here (below_step (by go_grown) hbP); have QS := QS.here (below_step (by go_grown) hbP); have XT := XT.here (below_step (by go_grown) hbP); have XO := XO.here (below_step (by go_grown) hbP); have XP := XP.here (below_step (by go_grown) hbP); have zw := hbw.size))
      obtain ⟨v8, hv⟩ : ∃ v, v = vS.alloc (.cells #[.slice uT YT.length eT, .slice uO YO.length eO, .slice uP YP.length eP] 27) := ⟨_, rfl⟩
      rw [← hv]
      have hbA : Below vS.heap.size vS v8 := by rw [hv]; exact new_below _ _
      have cA0 : v8.cell? ⟨vS.heap.size, 0, none⟩ = some (.slice uT YT.length eT) := by rw [hv]; go_simp
      have cA1 : v8.cell? ⟨vS.heap.size, 1, none⟩ = some (.slice uO YO.length eO) := by rw [hv]; go_simp
      have cA2 : v8.cell? ⟨vS.heap.size, 2, none⟩ = some (.slice uP YP.length eP) := by rw [hv]; go_simp
      have zA : vS.heap.size < v8.heap.size := by rw [hv]; simp
      clear hv
      obtain ⟨b8, hb8⟩ : ∃ b, b = vS.heap.size := ⟨_, rfl⟩
      rw [← hb8] at cA0 cA1 cA2 ⊢
      have yb8 : b8 < v8.heap.size := by omega
      clear hb8
      have hbw := below_step hbw hbA
      have C : Hid (Cells v8 [(b3, 0, .slice aT T.length cT), (b3, 1, .slice aO O.length cO), (b3, 2, .slice aP P.length cP), (b6, 0, .slice xT YT.length dT), (b6, 1, .slice xO YO.length dO), (b6, 2, .slice xP YP.length dP), (b8, 0, .slice uT YT.length eT), (b8, 1, .slice uO YO.length eO), (b8, 2, .slice uP YP.length eP)]) := by
        obtain ⟨c0, c1, c2, c3, c4, c5, _⟩ := C.out.next hbA
        exact ⟨c0, c1, c2, c3, c4, c5, ⟨yb8, cA0⟩, ⟨yb8, cA1⟩, ⟨yb8, cA2⟩, trivial⟩
      have ⟨⟨kz0, k0⟩, ⟨kz1, k1⟩, ⟨kz2, k2⟩, ⟨kz3, k3⟩, ⟨kz4, k4⟩, ⟨kz5, k5⟩, ⟨kz6, k6⟩, ⟨kz7, k7⟩, ⟨kz8, k8⟩, _⟩ := C.out
      have QT := QT.here hbA
      have QO := QO.here hbA
      have QP := QP.here hbA
      have QS := QS.here hbA
      have XT := XT.here hbA
      have XO := XO.here hbA
      have XP := XP.here hbA
      have UT := UT.here hbA
      have UO := UO.here hbA
      have UP := UP.here hbA
      have zw := hbw.size
      clear cA0 cA1 cA2 zA hbA
      go_upto_region 8 with (first
        | (go_at_call 18; refine (likeL_same _ _ _ _ _ _ (XT.here (by go_grown)) (XO.here (by go_grown)) (XP.here (by go_grown)) (UT.here (by go_grown)) (UO.here (by go_grown)) (UP.here (by go_grown)) (by omega) (by omega) (by omega)).mono ?_; rintro e vL ⟨rfl, hbE⟩; have hbw := below_step (w := w) (by go_grown) hbE; have C : Hid (Cells vL [(b3, 0, .slice aT T.length cT), (b3, 1, .slice aO O.length cO), (b3, 2, .slice aP P.length cP), (b6, 0, .slice xT YT.length dT), (b6, 1, .slice xO YO.length dO), (b6, 2, .slice xP YP.length dP), (b8, 0, .slice uT YT.length eT), (b8, 1, .slice uO YO.length eO), (b8, 2, .slice uP YP.length eP)]) := C.out.next (below_step (by go_grown) hbE); have ⟨⟨kz0, k0⟩, ⟨kz1, k1⟩, ⟨kz2, k2⟩, ⟨kz3, k3⟩, ⟨kz4, k4⟩, ⟨kz5, k5⟩, ⟨kz6, k6⟩, ⟨kz7, k7⟩, ⟨kz8, k8⟩, _⟩ := C.out; have QT := QT.here (below_step (by go_grown) hbE); have QO := QO.here (below_step (by go_grown) hbE); have QP := QP.here (below_step (by go_grown) hbE); have QS := QS.here (below_step (by go_grown) hbE); have XT := XT.here (below_step (by go_grown) hbE); have XO := XO.here (below_step (by go_grown) hbE); have XP := XP.here (below_step (by go_grown) hbE); have zw := hbw.size))
      clear UT UO UP
      go_upto_region 9 with (first
        | (go_at_call 19; refine (drawBound_any cap0 hs (row.mono hbw) zw).mono ?_; rintro e vB ⟨bT, fT, bO, fO, bP, fP, BT, BO, BP, bi, ns, rfl, ⟨BQ1, BQ2, BQ3⟩, _, hbP⟩; have hbw := below_step (w := w) (by go_grown) hbP; have C : Hid (Cells vB [(b3, 0, .slice aT T.length cT), (b3, 1, .slice aO O.length cO), (b3, 2, .slice aP P.length cP), (b6, 0, .slice xT YT.length dT), (b6, 1, .slice xO YO.length dO), (b6, 2, .slice xP YP.length dP), (b8, 0, .slice uT YT.length eT), (b8, 1, .slice uO YO.length eO), (b8, 2, .slice uP YP.length eP)]) := C.out.next (below_step (by go_grown) hbP); have ⟨⟨kz0, k0⟩, ⟨kz1, k1⟩, ⟨kz2, k2⟩, ⟨kz3, k3⟩, ⟨kz4, k4⟩, ⟨kz5, k5⟩, ⟨kz6, k6⟩, ⟨kz7, k7⟩, ⟨kz8, k8⟩, _⟩ := C.out; have QT := QT.here (below_step (by go_grown) hbP); have QO := QO.here (below_step (by go_grown) hbP); have QP := QP.here (below_step (by go_grown) hbP); have QS := QS.here (below_step (by go_grown) hbP); have XT := XT.here (below_step (by go_grown) hbP); have XO := XO.here (below_step (by go_grown) hbP); have XP := XP.here (below_step (by go_grown) hbP); have zw := hbw.size))
      obtain ⟨v10, hv⟩ : ∃ v, v = vB.alloc (.cells #[.slice bT BT.length fT, .slice bO BO.length fO, .slice bP BP.length fP] 27) := ⟨_, rfl⟩
      rw [← hv]
      have hbA : Below vB.heap.size vB v10 := by rw [hv]; exact new_below _ _
      have cA0 : v10.cell? ⟨vB.heap.size, 0, none⟩ = some (.slice bT BT.length fT) := by rw [hv]; go_simp
      have cA1 : v10.cell? ⟨vB.heap.size, 1, none⟩ = some (.slice bO BO.length fO) := by rw [hv]; go_simp
      have cA2 : v10.cell? ⟨vB.heap.size, 2, none⟩ = some (.slice bP BP.length fP) := by rw [hv]; go_simp
      have zA : vB.heap.size < v10.heap.size := by rw [hv]; simp
      clear hv
      obtain ⟨b10, hb10⟩ : ∃ b, b = vB.heap.size := ⟨_, rfl⟩
      rw [← hb10] at cA0 cA1 cA2 ⊢
      have yb10 : b10 < v10.heap.size := by omega
      clear hb10
      have hbw := below_step hbw hbA
      have C : Hid (Cells v10 [(b3, 0, .slice aT T.length cT), (b3, 1, .slice aO O.length cO), (b3, 2, .slice aP P.length cP), (b6, 0, .slice xT YT.length dT), (b6, 1, .slice xO YO.length dO), (b6, 2, .slice xP YP.length dP), (b8, 0, .slice uT YT.length eT), (b8, 1, .slice uO YO.length eO), (b8, 2, .slice uP YP.length eP), (b10, 0, .slice bT BT.length fT), (b10, 1, .slice bO BO.length fO), (b10, 2, .slice bP BP.length fP)]) := by
        obtain ⟨c0, c1, c2, c3, c4, c5, c6, c7, c8, _⟩ := C.out.next hbA
        exact ⟨c0, c1, c2, c3, c4, c5, c6, c7, c8, ⟨yb10, cA0⟩, ⟨yb10, cA1⟩, ⟨yb10, cA2⟩, trivial⟩
      have ⟨⟨kz0, k0⟩, ⟨kz1, k1⟩, ⟨kz2, k2⟩, ⟨kz3, k3⟩, ⟨kz4, k4⟩, ⟨kz5, k5⟩, ⟨kz6, k6⟩, ⟨kz7, k7⟩, ⟨kz8, k8⟩, ⟨kz9, k9⟩, ⟨kz10, k10⟩, ⟨kz11, k11⟩, _⟩ := C.out
      have QT := QT.here hbA
      have QO := QO.here hbA
      have QP := QP.here hbA
      have QS := QS.here hbA
      have XT := XT.here hbA
      have XO := XO.here hbA
      have XP := XP.here hbA
      have BQ1 := BQ1.here hbA
      have BQ2 := BQ2.here hbA
      have BQ3 := BQ3.here hbA
      have zw := hbw.size
      clear cA0 cA1 cA2 zA hbA
      go_region_held3 (fun w' => w'.cell? ⟨b10, 0, none⟩ = some (.slice bT BT.length fT) ∧ w'.cell? ⟨b10, 1, none⟩ = some (.slice bO BO.length fO) ∧ w'.cell? ⟨b10, 2, none⟩ = some (.slice bP BP.length fP)) (go_keep)
        (first
          | (go_at_call 20; refine (iBound_any _ _ _ bi ns (BQ1.here (by go_grown)) (BQ2.here (by go_grown)) (BQ3.here (by go_grown))).mono ?_; rintro e vC ⟨rfl, hbE⟩; have hbw := below_step (w := w) (by go_grown) hbE; have C : Hid (Cells vC [(b3, 0, .slice aT T.length cT), (b3, 1, .slice aO O.length cO), (b3, 2, .slice aP P.length cP), (b6, 0, .slice xT YT.length dT), (b6, 1, .slice xO YO.length dO), (b6, 2, .slice xP YP.length dP), (b8, 0, .slice uT YT.length eT), (b8, 1, .slice uO YO.length eO), (b8, 2, .slice uP YP.length eP), (b10, 0, .slice bT BT.length fT), (b10, 1, .slice bO BO.length fO), (b10, 2, .slice bP BP.length fP)]) := C.out.next (below_step (by go_grown) hbE); have ⟨⟨kz0, k0⟩, ⟨kz1, k1⟩, ⟨kz2, k2⟩, ⟨kz3, k3⟩, ⟨kz4, k4⟩, ⟨kz5, k5⟩, ⟨kz6, k6⟩, ⟨kz7, k7⟩, ⟨kz8, k8⟩, ⟨kz9, k9⟩, ⟨kz10, k10⟩, ⟨kz11, k11⟩, _⟩ := C.out; have QT := QT.here (below_step (by go_grown) hbE); have QO := QO.here (below_step (by go_grown) hbE); have QP := QP.here (below_step (by go_grown) hbE); have QS := QS.here (below_step (by go_grown) hbE); have XT := XT.here (below_step (by go_grown) hbE); have XO := XO.here (below_step (by go_grown) hbE); have XP := XP.here (below_step (by go_grown) hbE); have BQ1 := BQ1.here (below_step (by go_grown) hbE); have BQ2 := BQ2.here (below_step (by go_grown) hbE); have BQ3 := BQ3.here (below_step (by go_grown) hbE); have zw := hbw.size)
          | (go_at_call 21; refine (specBound_any _ _ _ bi ns (BQ1.here (by go_grown)) (BQ2.here (by go_grown)) (BQ3.here (by go_grown))).mono ?_; rintro e vE ⟨rfl, hbE⟩; have hbw := below_step (w := w) (by go_grown) hbE; have C : Hid (Cells vE [(b3, 0, .slice aT T.length cT), (b3, 1, .slice aO O.length cO), (b3, 2, .slice aP P.length cP), (b6, 0, .slice xT YT.length dT), (b6, 1, .slice xO YO.length dO), (b6, 2, .slice xP YP.length dP), (b8, 0, .slice uT YT.length eT), (b8, 1, .slice uO YO.length eO), (b8, 2, .slice uP YP.length eP), (b10, 0, .slice bT BT.length fT), (b10, 1, .slice bO BO.length fO), (b10, 2, .slice bP BP.length fP)]) := C.out.next (below_step (by go_grown) hbE); have ⟨⟨kz0, k0⟩, ⟨kz1, k1⟩, ⟨kz2, k2⟩, ⟨kz3, k3⟩, ⟨kz4, k4⟩, ⟨kz5, k5⟩, ⟨kz6, k6⟩, ⟨kz7, k7⟩, ⟨kz8, k8⟩, ⟨kz9, k9⟩, ⟨kz10, k10⟩, ⟨kz11, k11⟩, _⟩ := C.out; have QT := QT.here (below_step (by go_grown) hbE); have QO := QO.here (below_step (by go_grown) hbE); have QP := QP.here (below_step (by go_grown) hbE); have QS := QS.here (below_step (by go_grown) hbE); have XT := XT.here (below_step (by go_grown) hbE); have XO := XO.here (below_step (by go_grown) hbE); have XP := XP.here (below_step (by go_grown) hbE); have BQ1 := BQ1.here (below_step (by go_grown) hbE); have BQ2 := BQ2.here (below_step (by go_grown) hbE); have BQ3 := BQ3.here (below_step (by go_grown) hbE); have zw := hbw.size))
      go_wp2_with (first
        | (go_at_call 18; refine (HL2.out _ _ _ _ _ _ _ (XT.here (by go_grown)) (XO.here (by go_grown)) (XP.here (by go_grown))).mono ?_; rintro e vM ⟨rfl, hbM⟩; have hbw := below_step (w := w) (by go_grown) hbM))
      go_ret
      exact ⟨rfl, hbw⟩
    · skip
      obtain ⟨YT, hYT⟩ : ∃ Y, retT T O P S now = Y := ⟨_, rfl⟩
      obtain ⟨YO, hYO⟩ : ∃ Y, retO T O P S now = Y := ⟨_, rfl⟩
      obtain ⟨YP, hYP⟩ : ∃ Y, retP T O P S now = Y := ⟨_, rfl⟩
      have hlens : YT.length ≤ 30 ∧ YO.length ≤ 30 ∧ YP.length ≤ 30 := by rw [← hYT, ← hYO, ← hYP]; exact ret_lengths T O P S now
      have lYT := hlens.1
      have lYO := hlens.2.1
      have lYP := hlens.2.2
      clear hlens
      have HI : Hid (∀ (w : World) (aT aO aP aS : Option Addr) (cT cO cP cS : Nat), Quad w.heap.size w aT T → Quad w.heap.size w aO O → Quad w.heap.size w aP P → Quad w.heap.size w aS S → Calls Try.prog 16 #[lendV aT T.length cT aO O.length cO aP P.length cP, .slice aS S.length cS, .int .i64 now] w (NewPost w YT YO YP true)) := fun w aT aO aP aS cT cO cP cS h1 h2 h3 h4 => by
        have h' := iRetree_any cT cO cP cS now h1 h2 h3 h4
        rw [hYT, hYO, hYP, hm] at h'
        exact h'
      have HS : Hid (∀ (w : World) (aT aO aP aS : Option Addr) (cT cO cP cS : Nat), Quad w.heap.size w aT T → Quad w.heap.size w aO O → Quad w.heap.size w aP P → Quad w.heap.size w aS S → Calls Try.prog 17 #[lendV aT T.length cT aO O.length cO aP P.length cP, .slice aS S.length cS, .int .i64 now] w (NewPost w YT YO YP true)) := fun w aT aO aP aS cT cO cP cS h1 h2 h3 h4 => by
        have h' := specRetree_any cT cO cP cS now h1 h2 h3 h4
        rw [hYT, hYO, hYP, hm] at h'
        exact h'
      have HE : Hid (YT = S ∧ Moved S YO YP) := by
        rw [← hYT, ← hYO, ← hYP]
        unfold retT retO retP
        rw [hm]
        exact ⟨rfl, moved hm⟩
      clear hYT hYO hYP hm
      go_upto_region 5 with (first
        | (go_at_call 16; refine (HI.out _ _ _ _ _ _ _ _ _ (QT.here (by go_grown)) (QO.here (by go_grown)) (QP.here (by go_grown)) (QS.here (by go_grown))).mono ?_; rintro e vI ⟨xT, n1, dT, xO, n2, dO, xP, n3, dP, rfl, lv, hbP⟩; obtain ⟨e1, XT⟩ := lv.t.quad; obtain ⟨e2, XO⟩ := lv.o.quad; obtain ⟨e3, XP⟩ := lv.p.quad; subst e1 e2 e3; clear lv; have hbw := below_step (w := w) (by go_grown) hbP; have C : Hid (Cells vI [(b3, 0, .slice aT T.length cT), (b3, 1, .slice aO O.length cO), (b3, 2, .slice aP P.length cP)]) := C.out.next (below_step (by go_grown) hbP); have ⟨⟨kz0, k0⟩, ⟨kz1, k1⟩, ⟨kz2, k2⟩, _⟩ := C.out; have QT := QT.here (below_step (by go_grown) hbP); have QO := QO.here (below_step (by go_grown) hbP); have QP := QP.here (below_step (by go_grown) hbP); have QS := QS.here (below_step (by go_grown) hbP); have zw := hbw.size))
      obtain ⟨v6, hv⟩ : ∃ v, v = vI.alloc (.cells #[.slice xT YT.length dT, .slice xO YO.length dO, .slice xP YP.length dP] 27) := ⟨_, rfl⟩
      rw [← hv]
      have hbA : Below vI.heap.size vI v6 := by rw [hv]; exact new_below _ _
      have cA0 : v6.cell? ⟨vI.heap.size, 0, none⟩ = some (.slice xT YT.length dT) := by rw [hv]; go_simp
      have cA1 : v6.cell? ⟨vI.heap.size, 1, none⟩ = some (.slice xO YO.length dO) := by rw [hv]; go_simp
      have cA2 : v6.cell? ⟨vI.heap.size, 2, none⟩ = some (.slice xP YP.length dP) := by rw [hv]; go_simp
      have zA : vI.heap.size < v6.heap.size := by rw [hv]; simp
      clear hv
      obtain ⟨b6, hb6⟩ : ∃ b, b = vI.heap.size := ⟨_, rfl⟩
      rw [← hb6] at cA0 cA1 cA2 ⊢
      have yb6 : b6 < v6.heap.size := by omega
      clear hb6
      have hbw := below_step hbw hbA
      have C : Hid (Cells v6 [(b3, 0, .slice aT T.length cT), (b3, 1, .slice aO O.length cO), (b3, 2, .slice aP P.length cP), (b6, 0, .slice xT YT.length dT), (b6, 1, .slice xO YO.length dO), (b6, 2, .slice xP YP.length dP)]) := by
        obtain ⟨c0, c1, c2, _⟩ := C.out.next hbA
        exact ⟨c0, c1, c2, ⟨yb6, cA0⟩, ⟨yb6, cA1⟩, ⟨yb6, cA2⟩, trivial⟩
      have ⟨⟨kz0, k0⟩, ⟨kz1, k1⟩, ⟨kz2, k2⟩, ⟨kz3, k3⟩, ⟨kz4, k4⟩, ⟨kz5, k5⟩, _⟩ := C.out
      have QT := QT.here hbA
      have QO := QO.here hbA
      have QP := QP.here hbA
      have QS := QS.here hbA
      have XT := XT.here hbA
      have XO := XO.here hbA
      have XP := XP.here hbA
      have zw := hbw.size
      clear cA0 cA1 cA2 zA hbA
      go_upto_region 6 with (first
        | (go_at_call 17; refine (HS.out _ _ _ _ _ _ _ _ _ (QT.here (by go_grown)) (QO.here (by go_grown)) (QP.here (by go_grown)) (QS.here (by go_grown))).mono ?_; rintro e vS ⟨uT, n1, eT, uO, n2, eO, uP, n3, eP, rfl, lv, hbP⟩; obtain ⟨e1, UT⟩ := lv.t.quad; obtain ⟨e2, UO⟩ := lv.o.quad; obtain ⟨e3, UP⟩ := lv.p.quad; subst e1 e2 e3; clear lv; have hbw := below_step (w := w) (by go_grown) hbP; have C : Hid (Cells vS [(b3, 0, .slice aT T.length cT), (b3, 1, .slice aO O.length cO), (b3, 2, .slice aP P.length cP), (b6, 0, .slice xT YT.length dT), (b6, 1, .slice xO YO.length dO), (b6, 2, .slice xP YP.length dP)]) := C.out.next (below_step (by go_grown) hbP); have ⟨⟨kz0, k0⟩, ⟨kz1, k1⟩, ⟨kz2, k2⟩, ⟨kz3, k3⟩, ⟨kz4, k4⟩, ⟨kz5, k5⟩, _⟩ := C.out; have QT := QT.here (below_step (by go_grown) hbP); have QO := QO.here (below_step (by go_grown) hbP); have QP := QP.here (below_step (by go_grown) hbP); have QS := QS.here (below_step (by go_grown) hbP); have XT := XT.here (below_step (by go_grown) hbP); have XO := XO.here (below_step (by go_grown) hbP); have XP := XP.here (below_step (by go_grown) hbP); have zw := hbw.size))
      obtain ⟨v8, hv⟩ : ∃ v, v = vS.alloc (.cells #[.slice uT YT.length eT, .slice uO YO.length eO, .slice uP YP.length eP] 27) := ⟨_, rfl⟩
      rw [← hv]
      have hbA : Below vS.heap.size vS v8 := by rw [hv]; exact new_below _ _
      have cA0 : v8.cell? ⟨vS.heap.size, 0, none⟩ = some (.slice uT YT.length eT) := by rw [hv]; go_simp
      have cA1 : v8.cell? ⟨vS.heap.size, 1, none⟩ = some (.slice uO YO.length eO) := by rw [hv]; go_simp
      have cA2 : v8.cell? ⟨vS.heap.size, 2, none⟩ = some (.slice uP YP.length eP) := by rw [hv]; go_simp
      have zA : vS.heap.size < v8.heap.size := by rw [hv]; simp
      clear hv
      obtain ⟨b8, hb8⟩ : ∃ b, b = vS.heap.size := ⟨_, rfl⟩
      rw [← hb8] at cA0 cA1 cA2 ⊢
      have yb8 : b8 < v8.heap.size := by omega
      clear hb8
      have hbw := below_step hbw hbA
      have C : Hid (Cells v8 [(b3, 0, .slice aT T.length cT), (b3, 1, .slice aO O.length cO), (b3, 2, .slice aP P.length cP), (b6, 0, .slice xT YT.length dT), (b6, 1, .slice xO YO.length dO), (b6, 2, .slice xP YP.length dP), (b8, 0, .slice uT YT.length eT), (b8, 1, .slice uO YO.length eO), (b8, 2, .slice uP YP.length eP)]) := by
        obtain ⟨c0, c1, c2, c3, c4, c5, _⟩ := C.out.next hbA
        exact ⟨c0, c1, c2, c3, c4, c5, ⟨yb8, cA0⟩, ⟨yb8, cA1⟩, ⟨yb8, cA2⟩, trivial⟩
      have ⟨⟨kz0, k0⟩, ⟨kz1, k1⟩, ⟨kz2, k2⟩, ⟨kz3, k3⟩, ⟨kz4, k4⟩, ⟨kz5, k5⟩, ⟨kz6, k6⟩, ⟨kz7, k7⟩, ⟨kz8, k8⟩, _⟩ := C.out
      have QT := QT.here hbA
      have QO := QO.here hbA
      have QP := QP.here hbA
      have QS := QS.here hbA
      have XT := XT.here hbA
      have XO := XO.here hbA
      have XP := XP.here hbA
      have UT := UT.here hbA
      have UO := UO.here hbA
      have UP := UP.here hbA
      have zw := hbw.size
      clear cA0 cA1 cA2 zA hbA
      go_upto_region 8 with (first
        | (go_at_call 18; refine (likeL_same _ _ _ _ _ _ (XT.here (by go_grown)) (XO.here (by go_grown)) (XP.here (by go_grown)) (UT.here (by go_grown)) (UO.here (by go_grown)) (UP.here (by go_grown)) (by omega) (by omega) (by omega)).mono ?_; rintro e vL ⟨rfl, hbE⟩; have hbw := below_step (w := w) (by go_grown) hbE; have C : Hid (Cells vL [(b3, 0, .slice aT T.length cT), (b3, 1, .slice aO O.length cO), (b3, 2, .slice aP P.length cP), (b6, 0, .slice xT YT.length dT), (b6, 1, .slice xO YO.length dO), (b6, 2, .slice xP YP.length dP), (b8, 0, .slice uT YT.length eT), (b8, 1, .slice uO YO.length eO), (b8, 2, .slice uP YP.length eP)]) := C.out.next (below_step (by go_grown) hbE); have ⟨⟨kz0, k0⟩, ⟨kz1, k1⟩, ⟨kz2, k2⟩, ⟨kz3, k3⟩, ⟨kz4, k4⟩, ⟨kz5, k5⟩, ⟨kz6, k6⟩, ⟨kz7, k7⟩, ⟨kz8, k8⟩, _⟩ := C.out; have QT := QT.here (below_step (by go_grown) hbE); have QO := QO.here (below_step (by go_grown) hbE); have QP := QP.here (below_step (by go_grown) hbE); have QS := QS.here (below_step (by go_grown) hbE); have XT := XT.here (below_step (by go_grown) hbE); have XO := XO.here (below_step (by go_grown) hbE); have XP := XP.here (below_step (by go_grown) hbE); have zw := hbw.size))
      clear UT UO UP
      go_upto_region 9 with (first
        | (go_at_call 19; refine (drawBound_any cap0 hs (row.mono hbw) zw).mono ?_; rintro e vB ⟨bT, fT, bO, fO, bP, fP, BT, BO, BP, bi, ns, rfl, ⟨BQ1, BQ2, BQ3⟩, _, hbP⟩; have hbw := below_step (w := w) (by go_grown) hbP; have C : Hid (Cells vB [(b3, 0, .slice aT T.length cT), (b3, 1, .slice aO O.length cO), (b3, 2, .slice aP P.length cP), (b6, 0, .slice xT YT.length dT), (b6, 1, .slice xO YO.length dO), (b6, 2, .slice xP YP.length dP), (b8, 0, .slice uT YT.length eT), (b8, 1, .slice uO YO.length eO), (b8, 2, .slice uP YP.length eP)]) := C.out.next (below_step (by go_grown) hbP); have ⟨⟨kz0, k0⟩, ⟨kz1, k1⟩, ⟨kz2, k2⟩, ⟨kz3, k3⟩, ⟨kz4, k4⟩, ⟨kz5, k5⟩, ⟨kz6, k6⟩, ⟨kz7, k7⟩, ⟨kz8, k8⟩, _⟩ := C.out; have QT := QT.here (below_step (by go_grown) hbP); have QO := QO.here (below_step (by go_grown) hbP); have QP := QP.here (below_step (by go_grown) hbP); have QS := QS.here (below_step (by go_grown) hbP); have XT := XT.here (below_step (by go_grown) hbP); have XO := XO.here (below_step (by go_grown) hbP); have XP := XP.here (below_step (by go_grown) hbP); have zw := hbw.size))
      obtain ⟨v10, hv⟩ : ∃ v, v = vB.alloc (.cells #[.slice bT BT.length fT, .slice bO BO.length fO, .slice bP BP.length fP] 27) := ⟨_, rfl⟩
      rw [← hv]
      have hbA : Below vB.heap.size vB v10 := by rw [hv]; exact new_below _ _
      have cA0 : v10.cell? ⟨vB.heap.size, 0, none⟩ = some (.slice bT BT.length fT) := by rw [hv]; go_simp
      have cA1 : v10.cell? ⟨vB.heap.size, 1, none⟩ = some (.slice bO BO.length fO) := by rw [hv]; go_simp
      have cA2 : v10.cell? ⟨vB.heap.size, 2, none⟩ = some (.slice bP BP.length fP) := by rw [hv]; go_simp
      have zA : vB.heap.size < v10.heap.size := by rw [hv]; simp
      clear hv
      obtain ⟨b10, hb10⟩ : ∃ b, b = vB.heap.size := ⟨_, rfl⟩
      rw [← hb10] at cA0 cA1 cA2 ⊢
      have yb10 : b10 < v10.heap.size := by omega
      clear hb10
      have hbw := below_step hbw hbA
      have C : Hid (Cells v10 [(b3, 0, .slice aT T.length cT), (b3, 1, .slice aO O.length cO), (b3, 2, .slice aP P.length cP), (b6, 0, .slice xT YT.length dT), (b6, 1, .slice xO YO.length dO), (b6, 2, .slice xP YP.length dP), (b8, 0, .slice uT YT.length eT), (b8, 1, .slice uO YO.length eO), (b8, 2, .slice uP YP.length eP), (b10, 0, .slice bT BT.length fT), (b10, 1, .slice bO BO.length fO), (b10, 2, .slice bP BP.length fP)]) := by
        obtain ⟨c0, c1, c2, c3, c4, c5, c6, c7, c8, _⟩ := C.out.next hbA
        exact ⟨c0, c1, c2, c3, c4, c5, c6, c7, c8, ⟨yb10, cA0⟩, ⟨yb10, cA1⟩, ⟨yb10, cA2⟩, trivial⟩
      have ⟨⟨kz0, k0⟩, ⟨kz1, k1⟩, ⟨kz2, k2⟩, ⟨kz3, k3⟩, ⟨kz4, k4⟩, ⟨kz5, k5⟩, ⟨kz6, k6⟩, ⟨kz7, k7⟩, ⟨kz8, k8⟩, ⟨kz9, k9⟩, ⟨kz10, k10⟩, ⟨kz11, k11⟩, _⟩ := C.out
      have QT := QT.here hbA
      have QO := QO.here hbA
      have QP := QP.here hbA
      have QS := QS.here hbA
      have XT := XT.here hbA
      have XO := XO.here hbA
      have XP := XP.here hbA
      have BQ1 := BQ1.here hbA
      have BQ2 := BQ2.here hbA
      have BQ3 := BQ3.here hbA
      have zw := hbw.size
      clear cA0 cA1 cA2 zA hbA
      go_region_held3 (fun w' => w'.cell? ⟨b10, 0, none⟩ = some (.slice bT BT.length fT) ∧ w'.cell? ⟨b10, 1, none⟩ = some (.slice bO BO.length fO) ∧ w'.cell? ⟨b10, 2, none⟩ = some (.slice bP BP.length fP)) (go_keep)
        (first
          | (go_at_call 20; refine (iBound_any _ _ _ bi ns (BQ1.here (by go_grown)) (BQ2.here (by go_grown)) (BQ3.here (by go_grown))).mono ?_; rintro e vC ⟨rfl, hbE⟩; have hbw := below_step (w := w) (by go_grown) hbE; have C : Hid (Cells vC [(b3, 0, .slice aT T.length cT), (b3, 1, .slice aO O.length cO), (b3, 2, .slice aP P.length cP), (b6, 0, .slice xT YT.length dT), (b6, 1, .slice xO YO.length dO), (b6, 2, .slice xP YP.length dP), (b8, 0, .slice uT YT.length eT), (b8, 1, .slice uO YO.length eO), (b8, 2, .slice uP YP.length eP), (b10, 0, .slice bT BT.length fT), (b10, 1, .slice bO BO.length fO), (b10, 2, .slice bP BP.length fP)]) := C.out.next (below_step (by go_grown) hbE); have ⟨⟨kz0, k0⟩, ⟨kz1, k1⟩, ⟨kz2, k2⟩, ⟨kz3, k3⟩, ⟨kz4, k4⟩, ⟨kz5, k5⟩, ⟨kz6, k6⟩, ⟨kz7, k7⟩, ⟨kz8, k8⟩, ⟨kz9, k9⟩, ⟨kz10, k10⟩, ⟨kz11, k11⟩, _⟩ := C.out; have QT := QT.here (below_step (by go_grown) hbE); have QO := QO.here (below_step (by go_grown) hbE); have QP := QP.here (below_step (by go_grown) hbE); have QS := QS.here (below_step (by go_grown) hbE); have XT := XT.here (below_step (by go_grown) hbE); have XO := XO.here (below_step (by go_grown) hbE); have XP := XP.here (below_step (by go_grown) hbE); have BQ1 := BQ1.here (below_step (by go_grown) hbE); have BQ2 := BQ2.here (below_step (by go_grown) hbE); have BQ3 := BQ3.here (below_step (by go_grown) hbE); have zw := hbw.size)
          | (go_at_call 21; refine (specBound_any _ _ _ bi ns (BQ1.here (by go_grown)) (BQ2.here (by go_grown)) (BQ3.here (by go_grown))).mono ?_; rintro e vE ⟨rfl, hbE⟩; have hbw := below_step (w := w) (by go_grown) hbE; have C : Hid (Cells vE [(b3, 0, .slice aT T.length cT), (b3, 1, .slice aO O.length cO), (b3, 2, .slice aP P.length cP), (b6, 0, .slice xT YT.length dT), (b6, 1, .slice xO YO.length dO), (b6, 2, .slice xP YP.length dP), (b8, 0, .slice uT YT.length eT), (b8, 1, .slice uO YO.length eO), (b8, 2, .slice uP YP.length eP), (b10, 0, .slice bT BT.length fT), (b10, 1, .slice bO BO.length fO), (b10, 2, .slice bP BP.length fP)]) := C.out.next (below_step (by go_grown) hbE); have ⟨⟨kz0, k0⟩, ⟨kz1, k1⟩, ⟨kz2, k2⟩, ⟨kz3, k3⟩, ⟨kz4, k4⟩, ⟨kz5, k5⟩, ⟨kz6, k6⟩, ⟨kz7, k7⟩, ⟨kz8, k8⟩, ⟨kz9, k9⟩, ⟨kz10, k10⟩, ⟨kz11, k11⟩, _⟩ := C.out; have QT := QT.here (below_step (by go_grown) hbE); have QO := QO.here (below_step (by go_grown) hbE); have QP := QP.here (below_step (by go_grown) hbE); have QS := QS.here (below_step (by go_grown) hbE); have XT := XT.here (below_step (by go_grown) hbE); have XO := XO.here (below_step (by go_grown) hbE); have XP := XP.here (below_step (by go_grown) hbE); have BQ1 := BQ1.here (below_step (by go_grown) hbE); have BQ2 := BQ2.here (below_step (by go_grown) hbE); have BQ3 := BQ3.here (below_step (by go_grown) hbE); have zw := hbw.size))
      have HEQ : Hid (YT = S) := HE.out.1
      have MV : Hid (Moved S YO YP) := HE.out.2
      have HLB : Hid (lendB YT YO YP = true) := by rw [HEQ.out]; exact MV.out.ok
      have lYS : YT.length = S.length := by rw [HEQ.out]
      have HYS : Hid (YT.length = S.length) := lYS
      clear lYS BQ1 BQ2 BQ3 QT QO QP HI HS
      have HC10 : Hid (Cells vE [(b3, 0, .slice aT T.length cT), (b3, 1, .slice aO O.length cO), (b3, 2, .slice aP P.length cP), (b6, 0, .slice xT YT.length dT), (b6, 1, .slice xO YO.length dO), (b6, 2, .slice xP YP.length dP), (b8, 0, .slice uT YT.length eT), (b8, 1, .slice uO YO.length eO), (b8, 2, .slice uP YP.length eP), (b10, 0, .slice bT BT.length fT), (b10, 1, .slice bO BO.length fO), (b10, 2, .slice bP BP.length fP)]) := C.out
      have hSi : (S.length : Int) ≤ 31 := by omega
      clear kz0 k0 kz1 k1 kz2 k2 kz3 k3 kz4 k4 kz5 k5 kz6 k6 kz7 k7 kz8 k8 kz9 k9 kz10 k10 kz11 k11
      go_wp2
      go_loopw [13] (fun i wr => ∃ k : Nat, i = .int .i64 k ∧ k ≤ S.length ∧ Hid (Below vE.heap.size vE wr)) (fun i _ => S.length - (intOf i).toNat)
      case atStart => exact ⟨0, rfl, by omega, Below.refl _ _⟩
      case round =>
        obtain ⟨k, rfl, hk, HB⟩ := hrel
        have C : Hid (Cells wr [(b3, 0, .slice aT T.length cT), (b3, 1, .slice aO O.length cO), (b3, 2, .slice aP P.length cP), (b6, 0, .slice xT YT.length dT), (b6, 1, .slice xO YO.length dO), (b6, 2, .slice xP YP.length dP), (b8, 0, .slice uT YT.length eT), (b8, 1, .slice uO YO.length eO), (b8, 2, .slice uP YP.length eP), (b10, 0, .slice bT BT.length fT), (b10, 1, .slice bO BO.length fO), (b10, 2, .slice bP BP.length fP)]) := HC10.out.next HB.out
        have ⟨⟨kz0, k0⟩, ⟨kz1, k1⟩, ⟨kz2, k2⟩, ⟨kz3, k3⟩, ⟨kz4, k4⟩, ⟨kz5, k5⟩, ⟨kz6, k6⟩, ⟨kz7, k7⟩, ⟨kz8, k8⟩, ⟨kz9, k9⟩, ⟨kz10, k10⟩, ⟨kz11, k11⟩, _⟩ := C.out
        have XT := XT.here HB.out
        have XO := XO.here HB.out
        have XP := XP.here HB.out
        have QS := QS.here HB.out
        by_cases hlt : k < S.length
        · have hlt' : (k : Int) < (S.length : Int) := by omega
          have h1 : k < YT.length := by have := HYS.out; omega
          have h2 : k < YO.length := by have := MV.out.lo; omega
          have h3 : k < YP.length := by have := MV.out.lp; omega
          have h1' : (k : Int) < (YT.length : Int) := by omega
          have h2' : (k : Int) < (YO.length : Int) := by omega
          have h3' : (k : Int) < (YP.length : Int) := by omega
          have ey : YT[k] = S[k] := by
            have e := HEQ.out
            subst e
            rfl
          have hown := MV.out.own k hlt h2
          have htop := MV.out.top k hlt h3
          have hu := win_num (cls_three ((lend_of MV.out.ok).tree.sound.cls k hlt)).2.2
          obtain ⟨g1, o1, rfl, hb1, d0, d1, d2, d3⟩ := XT k h1
          obtain ⟨g2, o2, rfl, hb2, s0, s1, s2, s3⟩ := QS k hlt
          obtain ⟨g3, o3, rfl, hb3, p0, p1, p2, p3⟩ := XO k h2
          obtain ⟨g4, o4, rfl, hb4, r0, r1, r2, r3⟩ := XP k h3
          rw [ey] at d0 d1 d2 d3
          obtain ⟨z, hz⟩ : ∃ z, S[k] = z := ⟨_, rfl⟩
          obtain ⟨y, hy⟩ : ∃ y, YO[k] = y := ⟨_, rfl⟩
          obtain ⟨x, hx⟩ : ∃ x, YP[k] = x := ⟨_, rfl⟩
          rw [hz] at d0 d1 d2 d3 s0 s1 s2 s3 hown htop hu
          rw [hy] at p0 p1 p2 p3 hown
          rw [hx] at r0 r1 r2 r3 htop
          clear hz hy hx ey
          obtain ⟨za, zb, zc, zu⟩ := z
          obtain ⟨ya, yb, yl, yt⟩ := y
          obtain ⟨xa, xb, xl, xt⟩ := x
          simp only at d0 d1 d2 d3 s0 s1 s2 s3 p0 p1 p2 p3 r0 r1 r2 r3 hown htop hu
          subst htop
          have hwu : IntKind.i64.wrap (1000000000 * zu) = 1000000000 * zu := by rw [IntKind.wrap_i64]; omega
          have hng : ¬ 1000000000 * zu < yl := by omega
          clear hown hu
          go_upto_region 16 with (fail)
          go_quiet (fail)
          go_wp2
          go_roundw
          case rel => exact ⟨k + 1, by go_num, by omega, below_drews HB.out _⟩
          case measure => first | (simp [intOf]; done) | (simp [intOf]; omega)
        · have hlt' : ¬ (k : Int) < (S.length : Int) := by omega
          go_wp2_with (first
            | (go_at_call 22; refine (iLendOk_any _ _ _ XT XO XP).mono ?_; rintro e vZ ⟨rfl, hbZ⟩; rw [HLB.out]))
          go_ret
          exact ⟨rfl, below_step (below_step hbw HB.out) hbZ⟩
  · have hbig : (4096 : Int) < (len0 : Int) := by omega
    go_enter Try.func4, Try.ntmps4
    go_wp2
    go_ret
    exact ⟨rfl, Below.refl _ _⟩

/-! ### THE ROW's STEP: WRITTEN OUT: LEAVE IT -/
set_option maxRecDepth 100000 in
theorem lifted (os : Os) (started : os.Started) (H : Type) (enc : TypeId × Value → H) :
    ReturnsInHanded {} Try.checked os 4 .any (Rows.fnRetreedSpec.pre6 enc Try.prog Try.f4 Rows.fnRetreedRow.domain false) (Rows.fnRetreedSpec.post enc Try.prog Try.f4 false true false false) := by
  refine returnsInHanded_of_change (C := Try.checked) own started (by kernel_rfl) Try.func4
    (ChangeSpec.witness6 (enc := enc) (C := Try.checked) false ⟨#[], #[.slice none 0 0], []⟩ 8 (by kernel_rfl) (by kernel_rfl) (by kernel_rfl) (by kernel_rfl)) ?_
  intro W base args ds gs before hval0 hW hcnd _
  have hval : ∀ (j : Nat) t v, Try.f4.params[j]? = some t → args[j]? = some v → Value.okWide Try.prog W .any base t v := hval0
  have hW' := hW
  obtain ⟨p, q, hA0, hV, rfl, hfz, hnd⟩ := hW
  have hA : DataW.TrodAll enc Try.prog W 0 (fun _ => true) true Try.f4.params.toList args.toList ds p := hA0
  rw [Try.params4] at hA hval
  obtain ⟨v0, vs0, d0, ds0, p0, q0, hargs, rfl, rfl, h0, r0⟩ := trodAll_cons hA
  obtain ⟨rfl, rfl, rfl⟩ := trodAll_nil r0
  obtain rfl : args = #[v0] := by cases args; simp_all
  obtain ⟨rfl, rfl⟩ := trodVars_none hV
  obtain ⟨a0, len0, cap0, rfl⟩ := okWide_slice Try.underlying22 (hval 0 22 v0 rfl rfl)
  have k0 := h0
  have lt0 : ∀ x ∈ p0, x.block < W.heap.size := by obtain ⟨m, hm⟩ := k0; exact DataW.trod_lt m _ _ _ hm
  obtain ⟨z0, w0⟩ : ∃ zs, IsRow .u8 W a0 len0 cap0 zs := by
    obtain ⟨fuel, hf⟩ := h0
    rcases open_ints Try.underlying22 Try.underlying5 (by kernel_rfl) hf with ⟨hcs, _⟩ | ⟨x, l, c, zs, hcs, _, hl, hm, hz, _, hcell, hwz⟩
    · simp [Value.cells] at hcs
      obtain ⟨rfl, rfl, rfl⟩ := hcs
      exact ⟨[], .inl ⟨rfl, rfl, rfl, rfl⟩⟩
    · simp [Value.cells] at hcs
      obtain ⟨rfl, rfl, rfl⟩ := hcs
      exact ⟨zs, .inr ⟨_, rfl, hl, hm, by simpa using hz, hcell, hwz⟩⟩
  clear hA0 hval0
  refine (walk a0 len0 cap0 z0 W w0).mono fun e W' ⟨he, bel⟩ => ?_
  subst he
  exact ⟨_, rfl, _, _, _, [], _, [], hW', trodAll_mk1 (shut_bool Try.underlying4 _), (trodAll_cons_mk (Below.trod laidOut (by kernel_rfl) (of_decide_eq_true (by kernel_rfl)) k0 bel lt0) trodAll_mk0), rfl, bel.frame _, fun h => by cases h⟩

theorem over : Rows.fnRetreedRow.holds Try.pinned (OpenSpec.ofChange Rows.fnRetreedSpec) :=
  OpenClaim.holds_of_wide 4 Try.f4 rfl rfl rfl rfl rfl rfl rfl ⟨rfl, rfl, rfl, rfl, rfl⟩ rfl rfl rfl rfl rfl (by kernel_rfl) Try.func4 (by kernel_rfl)
    (of_decide_eq_true (by kernel_rfl)) (by unfold Func.isWrapper; first | (rw [if_pos (by decide +kernel)]; kernel_rfl) | (rw [if_neg (by decide +kernel)]; exact ⟨rfl, rfl⟩))
    (fun os started H enc _ => lifted os started H enc)

/-- ████ THE STATEMENT ████ -/
theorem proved : Rows.FnRetreedSaid := over
#print axioms proved
end Go.Proofs.Ytmophpbfaonfmad.fnRetreed
namespace Go.Proofs.Ytmophpbfaonfmad
theorem fnRetreed_holds : Rows.FnRetreedSaid := fnRetreed.proved
#print axioms fnRetreed_holds
end Go.Proofs.Ytmophpbfaonfmad
