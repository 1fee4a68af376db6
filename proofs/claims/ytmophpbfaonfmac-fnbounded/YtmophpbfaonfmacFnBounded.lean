/- Proved: whatever the bytes, the law FnBounded returns true (at the Lend, the leaf, the time and the size that the model draws of them impl.Spend answers as spec's does, and of a right Lend no more is spent below a class in sixteen steps than its bound), and the bytes read as before; no condition. -/
import Derived.Test.YtmophpbfaonfmacRows
import Derived.WalkKit
import Derived.ProofKit
import Derived.OpenShut
import Derived.ShutString
import Derived.ChangeOld
import Derived.Below
import Derived.Test.YtmophpbfaonfmacBndLaw
import Derived.Test.YtmophpbfaonfmacDraw7j
import Derived.Test.YtmophpbfaonfmacLikeL
import Derived.Test.YtmophpbfaonfmacGrpH
import Derived.Test.YtmophpbfaonfmacDrawLevel
import Derived.Test.YtmophpbfaonfmacPush2
import Derived.Deep.DeepCutAuto
import Derived.Deep.OwnRows
namespace Go.Proofs.Ytmophpbfaonfmac.fnBounded
open Go.ChangeShapes Go.WideShapes Go.ChangeAt Go.RowKit
open Go.ChangeMaps (open_string shut_string)
set_option linter.unusedVariables false

theorem own : ownKnob Try.prog.godebug = none := by kernel_rfl
theorem laidOut : laidOutB Try.prog = true := by kernel_rfl

/-- WHAT THE WALK IS TOLD OF A SLICE OF INTEGERS THAT CAME IN: it is nil; or it leads to a row of 'cap' cells, the numbers 'zs' (the first 'len' are its elements, the rest its spare room), each fitting its kind. -/
def IsRow (k : IntKind) (w : World) (a : Option Addr) (len cap : Nat) (zs : List Int) : Prop :=
  (a = none ∧ len = 0 ∧ cap = 0 ∧ zs = []) ∨
  ∃ x, a = some x ∧ len ≤ cap ∧ cap ≤ maxLen ∧ zs.length = cap ∧ (∀ i, i < zs.length → w.cell? (x.add i) = some (.int k (zs.getD i 0))) ∧ ∀ n ∈ zs, (Lit.int k n).wf = true

set_option linter.unusedSimpArgs false
set_option maxRecDepth 100000
theorem row_of {w : World} {a : Option Addr} {len cap : Nat} {zs : List Int} (h : IsRow .u8 w a len cap zs) : Row w.heap.size a len w := by
  intro i hi
  rcases h with ⟨rfl, rfl, rfl, rfl⟩ | ⟨x, rfl, hl, hm, hz, hcell, hwz⟩
  · omega
  · obtain ⟨b, off, spot⟩ := x
    have hspot : spot = none := by simpa [Addr.add] using World.cell?_spot (hcell 0 (by omega))
    subst hspot
    have hc := hcell i (by omega)
    have hc' : w.cell? ⟨b, off + i, none⟩ = some (.int .u8 (zs.getD i 0)) := by
      by_cases h0 : i = 0
      · subst h0; simpa [Addr.add] using hc
      · simpa [Addr.add, h0] using hc
    have hlt : i < zs.length := by omega
    have hm : zs.getD i 0 ∈ zs := by simp [List.getD, List.getElem?_eq_getElem hlt]
    obtain ⟨z0, z1⟩ := bounds_u8 (hwz _ hm)
    exact ⟨b, off, zs.getD i 0, rfl, World.block_lt_of_cell? w _ hc', hc', z0, z1⟩
theorem nil_of {w : World} {a : Option Addr} {len cap : Nat} {zs : List Int} (h : IsRow .u8 w a len cap zs) : a = none → len = 0 ∧ cap = 0 := by
  rintro rfl
  rcases h with ⟨_, h1, h2, _⟩ | ⟨x, h, _⟩
  · exact ⟨h1, h2⟩
  · cases h
theorem made_at {n k : Nat} (h : k < n) : (madeCells #[Value.int .i64 0] n)[k]? = some (.int .i64 0) := by
  unfold madeCells
  simp [h, Nat.mod_one]
theorem leaf_in {T : List Q4} (hc : treeCode T = 0) {x : Int} (h : x ∈ leavesOf T) : 0 ≤ x ∧ x < T.length ∧ leafB T x = true := by
  unfold leavesOf at h
  rw [if_pos hc] at h
  unfold leavesTo at h
  obtain ⟨k, hk, rfl⟩ := List.mem_map.1 h
  obtain ⟨h1, h2⟩ := List.mem_filter.1 hk
  have := List.mem_range.1 h1
  exact ⟨by omega, by omega, h2⟩
theorem at_num {T O P : List Q4} (h : lendB T O P = true) : (0 ≤ atOf O ∧ atOf O ≤ 1000000000000000) ∧ 0 < O.length ∧ T.length ≤ 30 := by
  have hL := lend_of h
  have hl := hL.tree.l1
  have hl0 := hL.tree.l0
  have h0 : 0 < T.length := by omega
  have hp := pair_ok (hL.pair 0 h0 (by rw [hL.lo]; exact h0) (by rw [hL.lp]; exact h0))
  have hb := bok_num hp.oka
  have e := hp.ta
  exact ⟨by rw [← e]; exact hb.2.2.2, by rw [hL.lo]; exact h0, by omega⟩
theorem told_of {T O P : List Q4} {leaf now n : Int} (h : lendB T O P = true) (hm : leaf ∈ leavesOf T) (h1 : atOf O ≤ now) (h2 : now ≤ 1000000000000000) (h3 : 1 ≤ n ∧ n ≤ 1500) : toldB T O P leaf now n = true := by
  have hL := lend_of h
  obtain ⟨l0, l1, l2⟩ := leaf_in hL.code hm
  have ha := (at_num h).1
  unfold toldB timeB segB
  rw [h, l2, decide_eq_true l0, decide_eq_true (show leaf ≤ (T.length : Int) - 1 by omega), decide_eq_true (show 0 ≤ now by omega), decide_eq_true h2, decide_eq_true h1, decide_eq_true h3.1, decide_eq_true h3.2]
  rfl
theorem top_low {T O P : List Q4} (h : lendB T O P = true) {k : Nat} (h1 : k < T.length) (h2 : k < P.length) : 0 ≤ P[k].2.2.1 := by
  have hL := lend_of h
  have hp := pair_ok (hL.pair k h1 (by rw [hL.lo]; exact h1) h2)
  exact (bok_num hp.okb).2.2.1.1
def stepL (n : Int) (S : List Int) (c : Int) : List Int := match S[c.toNat]? with | some x => S.set c.toNat (x + n) | none => S
theorem addL_cons (n : Int) (S : List Int) (c : Int) (r : List Int) : addL n S (c :: r) = addL n (stepL n S c) r := rfl
theorem stepL_length (n : Int) (S : List Int) (c : Int) : (stepL n S c).length = S.length := by
  unfold stepL
  split
  · rw [List.length_set]
  · rfl
theorem stepL_le {n : Int} (hn : 0 ≤ n) (S : List Int) (c : Int) : ∀ (k : Nat) (x y : Int), S[k]? = some x → (stepL n S c)[k]? = some y → x ≤ y := by
  intro k x y hx hy
  unfold stepL at hy
  split at hy
  · rename_i z hz
    by_cases e : c.toNat = k
    · subst e
      rw [List.getElem?_set_self (List.getElem?_eq_some_iff.1 hz).1] at hy
      rw [hz] at hx
      injection hx with hx
      injection hy with hy
      omega
    · rw [List.getElem?_set_ne e, hx] at hy
      injection hy with hy
      omega
  · rw [hx] at hy
    injection hy with hy
    omega
theorem addL_le {n : Int} (hn : 0 ≤ n) : ∀ (L S : List Int) (k : Nat) (x y : Int), S[k]? = some x → (addL n S L)[k]? = some y → x ≤ y
  | [], S, k, x, y, hx, hy => by
    have hy' : S[k]? = some y := hy
    rw [hx] at hy'
    injection hy' with hy'
    omega
  | c :: r, S, k, x, y, hx, hy => by
    rw [addL_cons] at hy
    have hk : k < S.length := (List.getElem?_eq_some_iff.1 hx).1
    have hk' : k < (stepL n S c).length := by rw [stepL_length]; exact hk
    have h1 := stepL_le hn S c k x _ hx (List.getElem?_eq_getElem hk')
    have h2 := addL_le hn r (stepL n S c) k _ y (List.getElem?_eq_getElem hk') hy
    omega
theorem addL_at {n : Int} {S : List Int} {r : List Int} {k : Nat} (h : k < S.length) : addL n S ((k : Int) :: r) = addL n (S.set k (S[k] + n)) r := by
  show addL n (match S[((k : Int)).toNat]? with | some x => S.set ((k : Int)).toNat (x + n) | none => S) r = _
  rw [Int.toNat_natCast, List.getElem?_eq_getElem h]

/-! ### STEP 1: THE WALK: the Go text returns true, AND WRITES NOTHING THAT WAS THERE: 'Below w.heap.size w w'' (Derived/Below.lean: '.refl', '.alloc', '.drew', '.setCell' at a new block, '.trans'). Open each 'IsRow' by 'rcases' AHEAD of 'go_enter'; part every test ahead of the walk. -/
set_option maxHeartbeats 32000000 in
theorem walk (a0 : Option Addr) (len0 cap0 : Nat) (z0 : List Int) (w : World) (w0 : IsRow .u8 w a0 len0 cap0 z0) :
    Calls Try.prog 8 #[.slice a0 len0 cap0] w fun e w' => e = .returned (.bool true) ∧ Below w.heap.size w w' := by
  have row := row_of w0
  have hnil : Hid (a0 = none → len0 = 0 ∧ cap0 = 0) := nil_of w0
  by_cases hs : len0 ≤ 4096
  · go_enter Try.func8, Try.ntmps8
    go_upto_region 4 with (first
      | (go_at_call 43; refine (drawSpend_any cap0 hs row (Nat.le_refl _)).mono ?_; rintro e w1 ⟨aT, cT, aO, cO, aP, cP, T, O, P, leaf, now, n, rfl, ⟨QT, QO, QP⟩, ⟨lT, lO, lP⟩, hbw⟩)
      | go_in)
    have C : Hid (Cells w1 []) := trivial
    obtain ⟨v3, hv⟩ : ∃ v, v = w1.alloc (.cells #[.slice aT T.length cT, .slice aO O.length cO, .slice aP P.length cP] 64) := ⟨_, rfl⟩
    rw [← hv]
    have hbA : Below w1.heap.size w1 v3 := by rw [hv]; exact new_below _ _
    have cA0 : v3.cell? ⟨w1.heap.size, 0, none⟩ = some (.slice aT T.length cT) := by rw [hv]; go_simp
    have cA1 : v3.cell? ⟨w1.heap.size, 1, none⟩ = some (.slice aO O.length cO) := by rw [hv]; go_simp
    have cA2 : v3.cell? ⟨w1.heap.size, 2, none⟩ = some (.slice aP P.length cP) := by rw [hv]; go_simp
    have zA : w1.heap.size < v3.heap.size := by rw [hv]; simp
    clear hv
    obtain ⟨b3, hb3⟩ : ∃ b, b = w1.heap.size := ⟨_, rfl⟩
    rw [← hb3] at cA0 cA1 cA2 ⊢
    have yb3 : b3 < v3.heap.size := by omega
    clear hb3
    have hbw := below_step hbw hbA
    have C : Hid (Cells v3 [(b3, 0, .slice aT T.length cT), (b3, 1, .slice aO O.length cO), (b3, 2, .slice aP P.length cP)]) := by
      obtain ⟨_⟩ := C.out.next hbA
      exact ⟨⟨yb3, cA0⟩, ⟨yb3, cA1⟩, ⟨yb3, cA2⟩, trivial⟩
    have ⟨⟨kz0, k0⟩, ⟨kz1, k1⟩, ⟨kz2, k2⟩, _⟩ := C.out
    have QT := QT.here hbA
    have QO := QO.here hbA
    have QP := QP.here hbA
    have zw := hbw.size
    clear cA0 cA1 cA2 zA hbA
    have lTi : T.length ≤ 1048576 := by omega
    obtain ⟨YT, hYT⟩ : ∃ Y, spendT T O P leaf now n = Y := ⟨_, rfl⟩
    obtain ⟨YO, hYO⟩ : ∃ Y, spendO T O P leaf now n = Y := ⟨_, rfl⟩
    obtain ⟨YP, hYP⟩ : ∃ Y, spendP T O P leaf now n = Y := ⟨_, rfl⟩
    obtain ⟨f, hf⟩ : ∃ f, spendF T O P leaf now n = f := ⟨_, rfl⟩
    have hlens : YT.length ≤ 30 ∧ YO.length ≤ 30 ∧ YP.length ≤ 30 := by rw [← hYT, ← hYO, ← hYP]; exact spend_lengths T O P leaf now n
    have lYT := hlens.1
    have lYO := hlens.2.1
    have lYP := hlens.2.2
    clear hlens
    have hff : (f != f) = false := by cases f <;> rfl
    have HI : Hid (∀ (w : World) (aT aO aP : Option Addr) (cT cO cP : Nat), Quad w.heap.size w aT T → Quad w.heap.size w aO O → Quad w.heap.size w aP P → Calls Try.prog 44 #[lendV aT T.length cT aO O.length cO aP P.length cP, .int .i64 leaf, .int .i64 now, .int .i64 n] w (NewPost w YT YO YP f)) := fun w aT aO aP cT cO cP h1 h2 h3 => by
      have h' := iSpend_any cT cO cP leaf now n h1 h2 h3
      rw [hYT, hYO, hYP, hf] at h'
      exact h'
    have HS : Hid (∀ (w : World) (aT aO aP : Option Addr) (cT cO cP : Nat), Quad w.heap.size w aT T → Quad w.heap.size w aO O → Quad w.heap.size w aP P → Calls Try.prog 45 #[lendV aT T.length cT aO O.length cO aP P.length cP, .int .i64 leaf, .int .i64 now, .int .i64 n] w (NewPost w YT YO YP f)) := fun w aT aO aP cT cO cP h1 h2 h3 => by
      have h' := specSpend_any cT cO cP leaf now n h1 h2 h3
      rw [hYT, hYO, hYP, hf] at h'
      exact h'
    have HE : Hid (lendB T O P = false → YT = []) := fun h => by
      rw [← hYT]
      unfold spendT toldB
      rw [h]
      rfl
    clear hYT hYO hYP hf
    go_upto_region 5 with (first
      | (go_at_call 44; refine (HI.out _ _ _ _ _ _ _ (QT.here (by go_grown)) (QO.here (by go_grown)) (QP.here (by go_grown))).mono ?_; rintro e vI ⟨xT, n1, dT, xO, n2, dO, xP, n3, dP, rfl, lv, hbP⟩; obtain ⟨e1, XT⟩ := lv.t.quad; obtain ⟨e2, XO⟩ := lv.o.quad; obtain ⟨e3, XP⟩ := lv.p.quad; subst e1 e2 e3; clear lv; have hbw := below_step (w := w) (by go_grown) hbP; have C : Hid (Cells vI [(b3, 0, .slice aT T.length cT), (b3, 1, .slice aO O.length cO), (b3, 2, .slice aP P.length cP)]) := C.out.next (below_step (by go_grown) hbP); have ⟨⟨kz0, k0⟩, ⟨kz1, k1⟩, ⟨kz2, k2⟩, _⟩ := C.out; have QT := QT.here (below_step (by go_grown) hbP); have QO := QO.here (below_step (by go_grown) hbP); have QP := QP.here (below_step (by go_grown) hbP); have zw := hbw.size))
    obtain ⟨v6, hv⟩ : ∃ v, v = vI.alloc (.cells #[.slice xT YT.length dT, .slice xO YO.length dO, .slice xP YP.length dP] 64) := ⟨_, rfl⟩
    rw [← hv]
    have hbA : Below vI.heap.size vI v6 := by rw [hv]; exact new_below _ _
    have cA0 : v6.cell? ⟨vI.heap.size, 0, none⟩ = some (.slice xT YT.length dT) := by rw [hv]; go_simp
    have cA1 : v6.cell? ⟨vI.heap.size, 1, none⟩ = some (.slice xO YO.length dO) := by rw [hv]; go_simp
    have cA2 : v6.cell? ⟨vI.heap.size, 2, none⟩ = some (.slice xP YP.length dP) := by rw [hv]; go_simp
    have zA : vI.heap.size < v6.heap.size := by rw [hv]; simp
    clear hv
    obtain ⟨b6, hb6⟩ : ∃ b, b = vI.heap.size := ⟨_, rfl⟩
    rw [← hb6] at cA0 cA1 cA2 ⊢
    have yb6 : b6 < v6.heap.size := by omega
    clear hb6
    have hbw := below_step hbw hbA
    have C : Hid (Cells v6 [(b3, 0, .slice aT T.length cT), (b3, 1, .slice aO O.length cO), (b3, 2, .slice aP P.length cP), (b6, 0, .slice xT YT.length dT), (b6, 1, .slice xO YO.length dO), (b6, 2, .slice xP YP.length dP)]) := by
      obtain ⟨c0, c1, c2, _⟩ := C.out.next hbA
      exact ⟨c0, c1, c2, ⟨yb6, cA0⟩, ⟨yb6, cA1⟩, ⟨yb6, cA2⟩, trivial⟩
    have ⟨⟨kz0, k0⟩, ⟨kz1, k1⟩, ⟨kz2, k2⟩, ⟨kz3, k3⟩, ⟨kz4, k4⟩, ⟨kz5, k5⟩, _⟩ := C.out
    have QT := QT.here hbA
    have QO := QO.here hbA
    have QP := QP.here hbA
    have XT := XT.here hbA
    have XO := XO.here hbA
    have XP := XP.here hbA
    have zw := hbw.size
    clear cA0 cA1 cA2 zA hbA
    go_upto_region 6 with (first
      | (go_at_call 45; refine (HS.out _ _ _ _ _ _ _ (QT.here (by go_grown)) (QO.here (by go_grown)) (QP.here (by go_grown))).mono ?_; rintro e vS ⟨uT, n1, eT, uO, n2, eO, uP, n3, eP, rfl, lv, hbP⟩; obtain ⟨e1, UT⟩ := lv.t.quad; obtain ⟨e2, UO⟩ := lv.o.quad; obtain ⟨e3, UP⟩ := lv.p.quad; subst e1 e2 e3; clear lv; have hbw := below_step (w := w) (by go_grown) hbP; have C : Hid (Cells vS [(b3, 0, .slice aT T.length cT), (b3, 1, .slice aO O.length cO), (b3, 2, .slice aP P.length cP), (b6, 0, .slice xT YT.length dT), (b6, 1, .slice xO YO.length dO), (b6, 2, .slice xP YP.length dP)]) := C.out.next (below_step (by go_grown) hbP); have ⟨⟨kz0, k0⟩, ⟨kz1, k1⟩, ⟨kz2, k2⟩, ⟨kz3, k3⟩, ⟨kz4, k4⟩, ⟨kz5, k5⟩, _⟩ := C.out; have QT := QT.here (below_step (by go_grown) hbP); have QO := QO.here (below_step (by go_grown) hbP); have QP := QP.here (below_step (by go_grown) hbP); have XT := XT.here (below_step (by go_grown) hbP); have XO := XO.here (below_step (by go_grown) hbP); have XP := XP.here (below_step (by go_grown) hbP); have zw := hbw.size))
    obtain ⟨v8, hv⟩ : ∃ v, v = vS.alloc (.cells #[.slice uT YT.length eT, .slice uO YO.length eO, .slice uP YP.length eP] 64) := ⟨_, rfl⟩
    rw [← hv]
    have hbA : Below vS.heap.size vS v8 := by rw [hv]; exact new_below _ _
    have cA0 : v8.cell? ⟨vS.heap.size, 0, none⟩ = some (.slice uT YT.length eT) := by rw [hv]; go_simp
    have cA1 : v8.cell? ⟨vS.heap.size, 1, none⟩ = some (.slice uO YO.length eO) := by rw [hv]; go_simp
    have cA2 : v8.cell? ⟨vS.heap.size, 2, none⟩ = some (.slice uP YP.length eP) := by rw [hv]; go_simp
    have zA : vS.heap.size < v8.heap.size := by rw [hv]; simp
    clear hv
    obtain ⟨b8, hb8⟩ : ∃ b, b = vS.heap.size := ⟨_, rfl⟩
    rw [← hb8] at cA0 cA1 cA2 ⊢
    have yb8 : b8 < v8.heap.size := by omega
    clear hb8
    have hbw := below_step hbw hbA
    have C : Hid (Cells v8 [(b3, 0, .slice aT T.length cT), (b3, 1, .slice aO O.length cO), (b3, 2, .slice aP P.length cP), (b6, 0, .slice xT YT.length dT), (b6, 1, .slice xO YO.length dO), (b6, 2, .slice xP YP.length dP), (b8, 0, .slice uT YT.length eT), (b8, 1, .slice uO YO.length eO), (b8, 2, .slice uP YP.length eP)]) := by
      obtain ⟨c0, c1, c2, c3, c4, c5, _⟩ := C.out.next hbA
      exact ⟨c0, c1, c2, c3, c4, c5, ⟨yb8, cA0⟩, ⟨yb8, cA1⟩, ⟨yb8, cA2⟩, trivial⟩
    have ⟨⟨kz0, k0⟩, ⟨kz1, k1⟩, ⟨kz2, k2⟩, ⟨kz3, k3⟩, ⟨kz4, k4⟩, ⟨kz5, k5⟩, ⟨kz6, k6⟩, ⟨kz7, k7⟩, ⟨kz8, k8⟩, _⟩ := C.out
    have QT := QT.here hbA
    have QO := QO.here hbA
    have QP := QP.here hbA
    have XT := XT.here hbA
    have XO := XO.here hbA
    have XP := XP.here hbA
    have UT := UT.here hbA
    have UO := UO.here hbA
    have UP := UP.here hbA
    have zw := hbw.size
    clear cA0 cA1 cA2 zA hbA
    go_upto_region 8 with (first
      | (go_at_call 46; refine (likeL_same _ _ _ _ _ _ (XT.here (by go_grown)) (XO.here (by go_grown)) (XP.here (by go_grown)) (UT.here (by go_grown)) (UO.here (by go_grown)) (UP.here (by go_grown)) (by omega) (by omega) (by omega)).mono ?_; rintro e vL ⟨rfl, hbE⟩; have hbw := below_step (w := w) (by go_grown) hbE; have C : Hid (Cells vL [(b3, 0, .slice aT T.length cT), (b3, 1, .slice aO O.length cO), (b3, 2, .slice aP P.length cP), (b6, 0, .slice xT YT.length dT), (b6, 1, .slice xO YO.length dO), (b6, 2, .slice xP YP.length dP), (b8, 0, .slice uT YT.length eT), (b8, 1, .slice uO YO.length eO), (b8, 2, .slice uP YP.length eP)]) := C.out.next (below_step (by go_grown) hbE); have ⟨⟨kz0, k0⟩, ⟨kz1, k1⟩, ⟨kz2, k2⟩, ⟨kz3, k3⟩, ⟨kz4, k4⟩, ⟨kz5, k5⟩, ⟨kz6, k6⟩, ⟨kz7, k7⟩, ⟨kz8, k8⟩, _⟩ := C.out; have QT := QT.here (below_step (by go_grown) hbE); have QO := QO.here (below_step (by go_grown) hbE); have QP := QP.here (below_step (by go_grown) hbE); have XT := XT.here (below_step (by go_grown) hbE); have XO := XO.here (below_step (by go_grown) hbE); have XP := XP.here (below_step (by go_grown) hbE); have zw := hbw.size))
    clear UT UO UP HI HS
    cases hl : lendB T O P
    · obtain rfl := HE.out hl
      have HL : Hid (lendB T O P = false) := hl
      clear hl HE
      go_wp2_with (first
        | (go_at_call 47; refine (specLendOk_is _ _ _ HL.out (QT.here (by go_grown)) (QO.here (by go_grown)) (QP.here (by go_grown))).mono ?_; rintro e vM ⟨rfl, hbM⟩; have hbw := below_step (w := w) (by go_grown) hbM; have C : Hid (Cells vM [(b3, 0, .slice aT T.length cT), (b3, 1, .slice aO O.length cO), (b3, 2, .slice aP P.length cP), (b6, 0, .slice xT 0 dT), (b6, 1, .slice xO YO.length dO), (b6, 2, .slice xP YP.length dP), (b8, 0, .slice uT 0 eT), (b8, 1, .slice uO YO.length eO), (b8, 2, .slice uP YP.length eP)]) := C.out.next (below_step (by go_grown) hbM); have ⟨⟨kz0, k0⟩, ⟨kz1, k1⟩, ⟨kz2, k2⟩, ⟨kz3, k3⟩, ⟨kz4, k4⟩, ⟨kz5, k5⟩, ⟨kz6, k6⟩, ⟨kz7, k7⟩, ⟨kz8, k8⟩, _⟩ := C.out; have QT := QT.here (below_step (by go_grown) hbM); have QO := QO.here (below_step (by go_grown) hbM); have QP := QP.here (below_step (by go_grown) hbM); have zw := hbw.size))
      go_ret
      exact ⟨rfl, hbw⟩
    have HL : Hid (lendB T O P = true) := hl
    obtain ⟨hat, hO0, hT30⟩ := at_num hl
    clear hl HE
    go_upto_region 11 with (first
      | (go_at_call 47; refine (specLendOk_is _ _ _ HL.out (QT.here (by go_grown)) (QO.here (by go_grown)) (QP.here (by go_grown))).mono ?_; rintro e vM ⟨rfl, hbM⟩; have hbw := below_step (w := w) (by go_grown) hbM; have C : Hid (Cells vM [(b3, 0, .slice aT T.length cT), (b3, 1, .slice aO O.length cO), (b3, 2, .slice aP P.length cP), (b6, 0, .slice xT YT.length dT), (b6, 1, .slice xO YO.length dO), (b6, 2, .slice xP YP.length dP), (b8, 0, .slice uT YT.length eT), (b8, 1, .slice uO YO.length eO), (b8, 2, .slice uP YP.length eP)]) := C.out.next (below_step (by go_grown) hbM); have ⟨⟨kz0, k0⟩, ⟨kz1, k1⟩, ⟨kz2, k2⟩, ⟨kz3, k3⟩, ⟨kz4, k4⟩, ⟨kz5, k5⟩, ⟨kz6, k6⟩, ⟨kz7, k7⟩, ⟨kz8, k8⟩, _⟩ := C.out; have QT := QT.here (below_step (by go_grown) hbM); have QO := QO.here (below_step (by go_grown) hbM); have QP := QP.here (below_step (by go_grown) hbM); have zw := hbw.size)
      | (go_at_call 38; refine (specLeaves_any _ (QT.here (by go_grown)) lTi).mono ?_; rintro e vV ⟨av, nv, cv, rfl, hiv, hbV⟩; have hbw := below_step (w := w) (by go_grown) hbV; have C : Hid (Cells vV [(b3, 0, .slice aT T.length cT), (b3, 1, .slice aO O.length cO), (b3, 2, .slice aP P.length cP), (b6, 0, .slice xT YT.length dT), (b6, 1, .slice xO YO.length dO), (b6, 2, .slice xP YP.length dP), (b8, 0, .slice uT YT.length eT), (b8, 1, .slice uO YO.length eO), (b8, 2, .slice uP YP.length eP)]) := C.out.next (below_step (by go_grown) hbV); have ⟨⟨kz0, k0⟩, ⟨kz1, k1⟩, ⟨kz2, k2⟩, ⟨kz3, k3⟩, ⟨kz4, k4⟩, ⟨kz5, k5⟩, ⟨kz6, k6⟩, ⟨kz7, k7⟩, ⟨kz8, k8⟩, _⟩ := C.out; have QT := QT.here (below_step (by go_grown) hbV); have QO := QO.here (below_step (by go_grown) hbV); have QP := QP.here (below_step (by go_grown) hbV); have zw := hbw.size))
    obtain ⟨a', cap', e', hsV⟩ := hiv.smp
    injection e' with e1 e2 e3
    subst e1 e2 e3
    obtain ⟨vs, hvs⟩ : ∃ vs, leavesOf T = vs := ⟨_, rfl⟩
    rw [hvs] at hsV
    simp only [hvs]
    have hvl : 1 ≤ vs.length := by rw [← hvs]; exact leaves_some (lend_of HL.out).code
    have hvl2 : vs.length ≤ 30 := by rw [← hvs]; exact leavesOf_length T
    have HV : Hid (leavesOf T = vs) := hvs
    clear hvs hiv
    have hT0 : 0 < T.length := by have := (lend_of HL.out).lo; omega
    obtain ⟨ob, oq, rfl, hob, o0, o1, o2, o3⟩ := QO.at (Below.refl _ _) 0 hO0
    obtain ⟨tb, tq, rfl, _⟩ := QT.at (Below.refl _ _) 0 hT0
    obtain ⟨vb, vq, rfl, _⟩ := hsV.at (Below.refl _ _) 0 hvl
    obtain ⟨s, hs'⟩ : ∃ s, atOf O = s := ⟨_, rfl⟩
    have o3' : vV.cell? ⟨ob, oq + 3, none⟩ = some (.int .i64 s) := by
      have e : atOf O = O[0].2.2.2 := by unfold atOf; rw [List.getElem?_eq_getElem hO0]
      rw [← hs', e]
      simpa using o3
    have HA : Hid (atOf O = s) := hs'
    rw [hs'] at hat
    clear hs' o0 o1 o2 o3 hob
    have hO0' : (0 : Int) < (O.length : Int) := by omega
    have hmk := run_make_row' (P := Try.prog) 43 2 (.int .i64 0) 8 Try.underlying43 (by kernel_rfl) rfl .i64 .i64 T.length (by omega) (by omega)
    go_upto_region 15 with (fail)
    obtain ⟨x9, hx9⟩ : ∃ x, x = (vV.alloc (.cells (madeCells #[Value.int .i64 0] T.length) 2)).alloc (.cells #[.slice (some ⟨tb, tq, none⟩) T.length cT, .slice (some ⟨ob, oq, none⟩) O.length cO, .slice aP P.length cP] 64) := ⟨_, rfl⟩
    obtain ⟨sg, hsg⟩ : ∃ b, b = vV.heap.size := ⟨_, rfl⟩
    obtain ⟨yb, hyb⟩ : ∃ b, b = vV.heap.size + 1 := ⟨_, rfl⟩
    rw [← hx9, ← hyb, ← hsg]
    have hb9 : Below vV.heap.size vV x9 := by rw [hx9]; go_grown
    have hz9 : vV.heap.size + 1 < x9.heap.size := by rw [hx9]; simp
    have D0 : Hid (BS sg yb b3 w x9 (some ⟨tb, tq, none⟩) cT (some ⟨ob, oq, none⟩) cO aP cP (some ⟨tb, tq, none⟩) cT (some ⟨ob, oq, none⟩) cO aP cP (some ⟨vb, vq, none⟩) T O P O P vs (List.replicate T.length 0)) := by
      refine ⟨below_step hbw hb9, by omega, by omega, by omega, by omega, Nat.lt_of_lt_of_le kz0 hb9.size, by omega, by omega, by omega, (hb9.cell kz0).trans k0, (hb9.cell kz0).trans k1, (hb9.cell kz0).trans k2, ?_, ?_, ?_, ?_, qn_old QT hb9 hb9.size (by omega) (by omega), qn_old QO hb9 hb9.size (by omega) (by omega), qn_old QP hb9 hb9.size (by omega) (by omega), qn_old QT hb9 hb9.size (by omega) (by omega), qn_old QO hb9 hb9.size (by omega) (by omega), qn_old QP hb9 hb9.size (by omega) (by omega), in_old hsV hb9 hb9.size (by omega) (by omega), ?_, ?_⟩
      · rw [hx9, hyb]; go_simp
      · rw [hx9, hyb]; go_simp
      · rw [hx9, hyb]; go_simp
      · intro o; rw [hx9, hyb]; go_simp
      · intro k hk
        rw [List.getElem_replicate, hx9, hsg]
        rw [List.length_replicate] at hk
        refine (below_cells (new_below _ _) _ _ (by simp)).trans ?_
        rw [World.cell?_alloc_at _ _ _ _ rfl]
        exact made_at hk
      · intro k; rw [hx9, hsg]; go_simp
    clear hx9 hsg hyb hb9 hz9 QT QO QP hsV C k0 k1 k2 k3 k4 k5 k6 k7 k8 kz0 kz1 kz2 kz3 kz4 kz5 kz6 kz7 kz8 o3' hmk hbw zw
    have B0 : Hid (Bnd T P (List.replicate T.length 0) s s 0) := by rw [← HA.out]; exact bnd_zero (lend_of HL.out)
    have L0 : Hid (lendB T O P = true ∧ atOf O = s) := ⟨HL.out, HA.out⟩
    go_wp2
    go_loopw [12, 16] (fun sa sj wr => ∃ (j : Nat) (t : Int) (uT : Option Addr) (eT : Nat) (uO : Option Addr) (eO : Nat) (uP : Option Addr) (eP : Nat) (ZO ZP : List Q4) (S : List Int), sa = .int .i64 t ∧ sj = .int .i64 j ∧ j ≤ 16 ∧ s ≤ t ∧ t - s ≤ 4000000 * (j : Int) ∧ t ≤ 1000000000000000 ∧ Hid (BS sg yb b3 w wr (some ⟨tb, tq, none⟩) cT (some ⟨ob, oq, none⟩) cO aP cP uT eT uO eO uP eP (some ⟨vb, vq, none⟩) T O P ZO ZP vs S) ∧ Hid (Bnd T ZP S s t j) ∧ Hid (lendB T ZO ZP = true ∧ atOf ZO = t)) (fun _ sj _ => 16 - (intOf sj).toNat)
    case atStart => exact ⟨0, s, _, _, _, _, _, _, O, P, _, rfl, rfl, by omega, by omega, by omega, hat.2, D0, B0, L0⟩
    case round =>
      clear D0 B0 L0
      obtain ⟨j, t, uT, eT, uO, eO, uP, eP, ZO, ZP, S, rfl, rfl, hj, t0, t1, t2, HDw, HBd, HLz⟩ := hrel
      have HBw : Hid (Below w.heap.size w wr) := HDw.out.bel
      by_cases hlt : j < 16
      · have hlt' : (j : Int) < 16 := by omega
        have hbt : IntKind.u8.wrap (j : Int) = (j : Int) := byte_of (by omega) (by omega)
        have hBY : Hid (∀ c : Int, 0 ≤ c → c ≤ 255 → ∀ u ∈ [Value.int .u8 (j : Int), .int .u8 c], ∃ z : Int, u = .int .u8 z ∧ 0 ≤ z ∧ z ≤ 255) := fun c c0 c1 u hu => by
          simp only [List.mem_cons, List.not_mem_nil, or_false] at hu
          rcases hu with rfl | rfl
          · exact ⟨_, rfl, by omega, by omega⟩
          · exact ⟨_, rfl, c0, c1⟩
        go_upto_region 19 with (first
      | (go_at_call 13; refine (pickN_any y1c 4000000 (by omega) (by omega) (by simp; omega) y1).mono ?_; rintro e wb ⟨p, rfl, p0, p1, _, rfl⟩; have HDwb : Hid (BS sg yb b3 w wb (some ⟨tb, tq, none⟩) cT (some ⟨ob, oq, none⟩) cO aP cP uT eT uO eO uP eP (some ⟨vb, vq, none⟩) T O P ZO ZP vs S) := HDwa.out; have HBwb : Hid (Below w.heap.size w wb) := HBwa.out; have hwp : IntKind.i64.wrap (t + p) = t + p := (by rw [IntKind.wrap_i64]; omega))
      | (at_builtin; refine wpList_pushL [.int .u8 (j : Int), .int .u8 1] (by simp) (by simp) (hBY.out 1 (by omega) (by omega)) rfl _ _ rfl rfl rfl (twos_owned _ (Nat.le_refl _) _ _) ((row.mono (below_two HBw.out (new_below _ _))).up HBw.out.size) hnil.out hs (by simp) ?_; intro y1a y1c wa y1 hbp; have hbq := (new_below _ _).trans hbp; have HDwa : Hid (BS sg yb b3 w wa (some ⟨tb, tq, none⟩) cT (some ⟨ob, oq, none⟩) cO aP cP uT eT uO eO uP eP (some ⟨vb, vq, none⟩) T O P ZO ZP vs S) := HDw.out.next hbq; have HBwa : Hid (Below w.heap.size w wa) := below_two HBw.out hbq))
        go_upto_region 20 with (first
      | (go_at_call 13; refine (pickN_any y2c (vs.length : Int) (by omega) (by omega) (by simp; omega) y2).mono ?_; rintro e wd ⟨x, rfl, x0, x1, _, rfl⟩; have HDwd : Hid (BS sg yb b3 w wd (some ⟨tb, tq, none⟩) cT (some ⟨ob, oq, none⟩) cO aP cP uT eT uO eO uP eP (some ⟨vb, vq, none⟩) T O P ZO ZP vs S) := HDwc.out; have HBwd : Hid (Below w.heap.size w wd) := HBwc.out; obtain ⟨X, rfl⟩ := Int.eq_ofNat_of_zero_le x0; have hX : X < vs.length := (by omega); obtain ⟨b', q', e', _, hcv⟩ := HDwd.out.V X hX; cases e'; obtain ⟨lf, hlf⟩ : ∃ l, vs[X] = l := ⟨_, rfl⟩; rw [hlf] at hcv; have HLF : Hid (lf ∈ vs) := (by show lf ∈ vs; rw [← hlf]; exact List.getElem_mem hX); clear hlf)
      | (at_builtin; refine wpList_pushL [.int .u8 (j : Int), .int .u8 2] (by simp) (by simp) (hBY.out 2 (by omega) (by omega)) rfl _ _ rfl rfl rfl (twos_owned _ (Nat.le_refl _) _ _) ((row.mono (below_two HBwb.out (new_below _ _))).up HBwb.out.size) hnil.out hs (by simp) ?_; intro y2a y2c wc y2 hbp; have hbq := (new_below _ _).trans hbp; have HDwc : Hid (BS sg yb b3 w wc (some ⟨tb, tq, none⟩) cT (some ⟨ob, oq, none⟩) cO aP cP uT eT uO eO uP eP (some ⟨vb, vq, none⟩) T O P ZO ZP vs S) := HDwb.out.next hbq; have HBwc : Hid (Below w.heap.size w wc) := below_two HBwb.out hbq))
        go_upto_region 21 with (first
      | (go_at_call 13; refine (pickN_any y3c 1500 (by omega) (by omega) (by simp; omega) y3).mono ?_; rintro e wf ⟨q, rfl, q0, q1, _, rfl⟩; have HDwf : Hid (BS sg yb b3 w wf (some ⟨tb, tq, none⟩) cT (some ⟨ob, oq, none⟩) cO aP cP uT eT uO eO uP eP (some ⟨vb, vq, none⟩) T O P ZO ZP vs S) := HDwe.out; have HBwf : Hid (Below w.heap.size w wf) := HBwe.out; have hwq : IntKind.i64.wrap (1 + q) = 1 + q := (by rw [IntKind.wrap_i64]; omega))
      | (at_builtin; refine wpList_pushL [.int .u8 (j : Int), .int .u8 3] (by simp) (by simp) (hBY.out 3 (by omega) (by omega)) rfl _ _ rfl rfl rfl (twos_owned _ (Nat.le_refl _) _ _) ((row.mono (below_two HBwd.out (new_below _ _))).up HBwd.out.size) hnil.out hs (by simp) ?_; intro y3a y3c we y3 hbp; have hbq := (new_below _ _).trans hbp; have HDwe : Hid (BS sg yb b3 w we (some ⟨tb, tq, none⟩) cT (some ⟨ob, oq, none⟩) cO aP cP uT eT uO eO uP eP (some ⟨vb, vq, none⟩) T O P ZO ZP vs S) := HDwd.out.next hbq; have HBwe : Hid (Below w.heap.size w we) := below_two HBwd.out hbq))
        by_cases hmx : 1000000000000000 < t + p
        · go_wp2
          go_ret
          exact ⟨rfl, HBwf.out⟩
        have hmx' : ¬ 1000000000000000 < t + p := hmx
        have HLFT : Hid (lf ∈ leavesOf T) := by rw [HV.out]; exact HLF.out
        have told := told_of (n := 1 + q) (now := t + p) HLz.out.1 HLFT.out (by rw [HLz.out.2]; omega) (by omega) ⟨by omega, by omega⟩
        obtain ⟨F, hF⟩ : ∃ F, spendF T ZO ZP lf (t + p) (1 + q) = F := ⟨_, rfl⟩
        obtain ⟨hb1, hb2, hb3⟩ := bnd_step told hF HLz.out.2 HBd.out
        obtain ⟨NO, hNO⟩ : ∃ X, spendO T ZO ZP lf (t + p) (1 + q) = X := ⟨_, rfl⟩
        obtain ⟨NP, hNP⟩ : ∃ X, spendP T ZO ZP lf (t + p) (1 + q) = X := ⟨_, rfl⟩
        obtain ⟨S2, hS2⟩ : ∃ X, (if F = true then addL (1 + q) S (pathOf T lf) else S) = X := ⟨_, rfl⟩
        rw [hNP, hS2] at hb1
        rw [hNO, hNP] at hb2
        rw [hNO] at hb3
        have HB2 : Hid (Bnd T NP S2 s (t + p) (j + 1)) := hb1
        have HL2 : Hid (lendB T NO NP = true ∧ atOf NO = t + p) := ⟨hb2, hb3⟩
        have HS2 : Hid ((if F = true then addL (1 + q) S (pathOf T lf) else S) = S2) := hS2
        have HLEN : Hid (S2.length = T.length) := hb1.len
        have HSP : Hid (∀ (w : World) (uT uO uP : Option Addr) (eT eO eP : Nat), Quad w.heap.size w uT T → Quad w.heap.size w uO ZO → Quad w.heap.size w uP ZP → Calls Try.prog 44 #[lendV uT T.length eT uO ZO.length eO uP ZP.length eP, .int .i64 lf, .int .i64 (t + p), .int .i64 (1 + q)] w (NewPost w T NO NP F)) := fun w uT uO uP eT eO eP h1 h2 h3 => by
          have h' := iSpend_any eT eO eP lf (t + p) (1 + q) h1 h2 h3
          rw [hNO, hNP, hF, show spendT T ZO ZP lf (t + p) (1 + q) = T from if_pos told] at h'
          exact h'
        obtain ⟨lf0, lf1, _⟩ := leaf_in (lend_of HLz.out.1).code HLFT.out
        have HPW : Hid (PWell T) := (lend_of HLz.out.1).tree.sound.well
        have hd0 := HDwf.out.d0
        have hd1 := HDwf.out.d1
        have hd2 := HDwf.out.d2
        clear told hF hNO hNP hS2 hb1 hb2 hb3 HLF
        go_upto_region 24 with (first
          | (go_at_call 44; refine (HSP.out _ _ _ _ _ _ _ HDwf.out.RT.quad HDwf.out.RO.quad HDwf.out.RP.quad).mono ?_; rintro e wS ⟨xT, n1, gT, xO, n2, gO, xP, n3, gP, rfl, lv, hbS⟩; obtain ⟨e1, NT⟩ := qn_new (sg := sg) (yb := yb) lv.t HDwf.out.zs HDwf.out.zy; obtain ⟨e2, NQ⟩ := qn_new (sg := sg) (yb := yb) lv.o HDwf.out.zs HDwf.out.zy; obtain ⟨e3, NR⟩ := qn_new (sg := sg) (yb := yb) lv.p HDwf.out.zs HDwf.out.zy; subst e1 e2 e3; clear lv; have HDwS : Hid (BS sg yb b3 w wS (some ⟨tb, tq, none⟩) cT (some ⟨ob, oq, none⟩) cO aP cP uT eT uO eO uP eP (some ⟨vb, vq, none⟩) T O P ZO ZP vs S) := HDwf.out.next hbS))
        obtain ⟨xS, hxS⟩ : ∃ x, x = wS.alloc (.cells #[.slice xT T.length gT, .slice xO NO.length gO, .slice xP NP.length gP] 64) := ⟨_, rfl⟩
        obtain ⟨zb, hzb⟩ : ∃ b, b = wS.heap.size := ⟨_, rfl⟩
        rw [← hxS, ← hzb]
        have g0 : xS.cell? ⟨zb, 0, none⟩ = some (.slice xT T.length gT) := by rw [hxS, hzb]; go_simp
        have g1 : xS.cell? ⟨zb, 1, none⟩ = some (.slice xO NO.length gO) := by rw [hxS, hzb]; go_simp
        have g2 : xS.cell? ⟨zb, 2, none⟩ = some (.slice xP NP.length gP) := by rw [hxS, hzb]; go_simp
        have hbx : Below wS.heap.size wS xS := by rw [hxS]; exact new_below _ _
        clear hxS hzb
        have HDxS : Hid (BS sg yb b3 w xS (some ⟨tb, tq, none⟩) cT (some ⟨ob, oq, none⟩) cO aP cP uT eT uO eO uP eP (some ⟨vb, vq, none⟩) T O P ZO ZP vs S) := HDwS.out.next hbx
        have NT := NT.two (twoB_below (sg := sg) (yb := yb) hbx)
        have NQ := NQ.two (twoB_below (sg := sg) (yb := yb) hbx)
        have NR := NR.two (twoB_below (sg := sg) (yb := yb) hbx)
        have hd0 := HDxS.out.d0
        have hd1 := HDxS.out.d1
        have hd2 := HDxS.out.d2
        have hdf := HDxS.out.df
        go_upto_region 25 with (fail)
        obtain ⟨xY, hxY⟩ : ∃ x, x = (((xS.setCell ⟨yb, 0, none⟩ (.slice xT T.length gT)).setCell ⟨yb, 1, none⟩ (.slice xO NO.length gO)).setCell ⟨yb, 2, none⟩ (.slice xP NP.length gP)) := ⟨_, rfl⟩
        rw [← hxY]
        have HDxY : Hid (BS sg yb b3 w xY (some ⟨tb, tq, none⟩) cT (some ⟨ob, oq, none⟩) cO aP cP xT gT xO gO xP gP (some ⟨vb, vq, none⟩) T O P NO NP vs S) := (by rw [hxY]; exact HDxS.out.yput NT NQ NR)
        clear hxY NT NQ NR g0 g1 g2 hd0 hd1 hd2 hdf hbx HDxS HDwS HDwf HDwe HDwd HDwc HDwb HDwa HDw hcv
        have hwt : IntKind.i64.wrap (t + p - s) = t + p - s := by rw [IntKind.wrap_i64]; omega
        have HFEW : Hid (∀ k (h : k < S2.length), S2[k] ≤ 1500 * 16) := fun k h => by have := HB2.out.few k h; omega
        have HIN : Hid (∀ (k : Nat) (h : k < S2.length), S2[k] ≤ boundAns T O P (k : Int) (t + p - s)) := fun k h => bnd_bound HB2.out HL.out (fun h1 h2 => top_low HL2.out.1 h1 h2) h (by omega) (by omega)
        cases F
        · obtain rfl : S = S2 := HS2.out
          go_wp2
          go_loopw [22] (fun sk wq => ∃ k : Nat, sk = .int .i64 k ∧ k ≤ T.length ∧ Hid (BS sg yb b3 w wq (some ⟨tb, tq, none⟩) cT (some ⟨ob, oq, none⟩) cO aP cP xT gT xO gO xP gP (some ⟨vb, vq, none⟩) T O P NO NP vs S)) (fun sk _ => T.length - (intOf sk).toNat)
          case atStart => exact ⟨0, rfl, by omega, HDxY⟩
          case round =>
            obtain ⟨k, rfl, hk, HDk⟩ := hrel
            by_cases hkl : k < T.length
            · have hk2 : k < S.length := by rw [HLEN.out]; exact hkl
              have hle := HIN.out k hk2
              have cs := HDk.out.sm k hk2
              obtain ⟨z, hz⟩ : ∃ z, S[k] = z := ⟨_, rfl⟩
              obtain ⟨bn, hbn⟩ : ∃ x, boundAns T O P (k : Int) (t + p - s) = x := ⟨_, rfl⟩
              rw [hz] at cs hle
              rw [hbn] at hle
              have HBN : Hid (boundAns T O P (k : Int) (t + p - s) = bn) := hbn
              have hle' : ¬ bn < z := by omega
              have HDd : Hid (BS sg yb b3 w wr.drew (some ⟨tb, tq, none⟩) cT (some ⟨ob, oq, none⟩) cO aP cP xT gT xO gO xP gP (some ⟨vb, vq, none⟩) T O P NO NP vs S) := HDk.out.next (Below.refl _ _).drew
              have HZ : Hid (∀ wx : World, BS sg yb b3 w wx (some ⟨tb, tq, none⟩) cT (some ⟨ob, oq, none⟩) cO aP cP xT gT xO gO xP gP (some ⟨vb, vq, none⟩) T O P NO NP vs S → wx.cell? ⟨sg, k, none⟩ = some (.int .i64 z)) := fun wx h => by rw [← hz]; exact h.sm k hk2
              have hc0 := HDk.out.c0
              have hc1 := HDk.out.c1
              have hc2 := HDk.out.c2
              have hkT : (k : Int) < (T.length : Int) := by omega
              have hk0 : ¬ (k : Int) < 0 := by omega
              clear hz hbn
              go_wp2
              refine wp_region_held_drew (S := fun w' => w'.cell? ⟨sg, k, none⟩ = some (.int .i64 z) ∧ w'.cell? ⟨b3, 0, none⟩ = some (.slice (some ⟨tb, tq, none⟩) T.length cT) ∧ w'.cell? ⟨b3, 1, none⟩ = some (.slice (some ⟨ob, oq, none⟩) O.length cO) ∧ w'.cell? ⟨b3, 2, none⟩ = some (.slice aP P.length cP)) (by kernel_rfl) (⟨cs, hc0, hc1, hc2⟩) (fun hS => ?_)
              refine wpAnyH_take (i := 0) (v := ?_) rfl (by kernel_rfl) (by kernel_rfl) (by kernel_rfl) (fun _ _ _ h => h) (Or.inl ⟨by rfl, ?_⟩) (by assumption) ?_
              rotate_left 1
              · (intro w' hSw; (try dsimp only at hSw); go_simp; try with_reducible rfl)
              try simp only [Act.put, List.setIfInBounds_toArray, List.set_cons_zero, List.set_cons_succ, List.getElem_toArray, List.getElem_cons_succ, List.getElem_cons_zero]
              refine wpAnyH_take (i := 1) (v := ?_) rfl (by kernel_rfl) (by kernel_rfl) (by kernel_rfl) (fun _ _ _ h => h) (Or.inl ⟨by rfl, ?_⟩) (by assumption) ?_
              rotate_left 1
              · (intro w' hSw; (try dsimp only at hSw); go_simp; try with_reducible rfl)
              try simp only [Act.put, List.setIfInBounds_toArray, List.set_cons_zero, List.set_cons_succ, List.getElem_toArray, List.getElem_cons_succ, List.getElem_cons_zero]
              refine wpAnyH_take (i := 2) (v := ?_) rfl (by kernel_rfl) (by kernel_rfl) (by kernel_rfl) (fun _ _ _ h => h) (Or.inl ⟨by rfl, ?_⟩) (by assumption) ?_
              rotate_left 1
              · (intro w' hSw; (try dsimp only at hSw); go_simp; try with_reducible rfl)
              try simp only [Act.put, List.setIfInBounds_toArray, List.set_cons_zero, List.set_cons_succ, List.getElem_toArray, List.getElem_cons_succ, List.getElem_cons_zero]
              refine wpAnyH_take (i := 3) (v := ?_) rfl (by kernel_rfl) (by kernel_rfl) (by kernel_rfl) (fun _ _ _ h => h) (Or.inl ⟨by rfl, ?_⟩) (by assumption) ?_
              rotate_left 1
              · (intro w' hSw; (try dsimp only at hSw); go_simp; try with_reducible rfl)
              try simp only [Act.put, List.setIfInBounds_toArray, List.set_cons_zero, List.set_cons_succ, List.getElem_toArray, List.getElem_cons_succ, List.getElem_cons_zero]
              refine wpAnyH_take (i := 4) (v := ?_) rfl (by kernel_rfl) (by kernel_rfl) (by kernel_rfl) (fun _ _ _ h => h) (Or.inl ⟨by rfl, ?_⟩) (by assumption) ?_
              rotate_left 1
              · (intro w' hSw; (try dsimp only at hSw); go_simp; try with_reducible rfl)
              try simp only [Act.put, List.setIfInBounds_toArray, List.set_cons_zero, List.set_cons_succ, List.getElem_toArray, List.getElem_cons_succ, List.getElem_cons_zero]
              refine wpAnyH_take (i := 5) (v := ?_) rfl (by kernel_rfl) (by kernel_rfl) (by kernel_rfl) (fun _ _ _ h => h) (Or.inl ⟨by rfl, ?_⟩) (by assumption) ?_
              rotate_left 1
              · (intro w' hSw; (try dsimp only at hSw); go_simp; try with_reducible rfl)
              try simp only [Act.put, List.setIfInBounds_toArray, List.set_cons_zero, List.set_cons_succ, List.getElem_toArray, List.getElem_cons_succ, List.getElem_cons_zero]
              refine wpAnyH_take (i := 6) (v := ?_) rfl (by kernel_rfl) (by kernel_rfl) (by kernel_rfl) (fun _ _ _ h => h) (Or.inl ⟨by rfl, ?_⟩) (by assumption) ?_
              rotate_left 1
              · (intro w' hSw; (try dsimp only at hSw); go_simp; try with_reducible rfl)
              try simp only [Act.put, List.setIfInBounds_toArray, List.set_cons_zero, List.set_cons_succ, List.getElem_toArray, List.getElem_cons_succ, List.getElem_cons_zero]
              refine wpAnyH_take (i := 7) (v := ?_) rfl (by kernel_rfl) (by kernel_rfl) (by kernel_rfl) (fun _ _ _ h => h) (Or.inl ⟨by rfl, ?_⟩) (by assumption) ?_
              rotate_left 1
              · (intro w' hSw; (try dsimp only at hSw); go_simp; try with_reducible rfl)
              try simp only [Act.put, List.setIfInBounds_toArray, List.set_cons_zero, List.set_cons_succ, List.getElem_toArray, List.getElem_cons_succ, List.getElem_cons_zero]
              refine wpAnyH_take (i := 8) (v := ?_) rfl (by kernel_rfl) (by kernel_rfl) (by kernel_rfl) (fun _ _ _ h => h) (Or.inl ⟨by rfl, ?_⟩) (by assumption) ?_
              rotate_left 1
              · (intro w' hSw; (try dsimp only at hSw); go_simp; try with_reducible rfl)
              try simp only [Act.put, List.setIfInBounds_toArray, List.set_cons_zero, List.set_cons_succ, List.getElem_toArray, List.getElem_cons_succ, List.getElem_cons_zero]
              refine wpAnyH_ready (rs := [9]) (by kernel_rfl) (by simp) (AllReadyH.cons rfl (fun K hK => ?_) AllReadyH.nil)
              go_simp
              (refine (iBound_any cT cO cP (k : Int) (t + p - s) HDd.out.QT.quad HDd.out.QO.quad HDd.out.QP.quad).mono ?_; rintro e wB ⟨rfl, hbB⟩; rw [HBN.out]; have HDB : Hid (BS sg yb b3 w wB (some ⟨tb, tq, none⟩) cT (some ⟨ob, oq, none⟩) cO aP cP xT gT xO gO xP gP (some ⟨vb, vq, none⟩) T O P NO NP vs S) := HDd.out.next hbB; have hSq : (fun w' => w'.cell? ⟨sg, k, none⟩ = some (.int .i64 z) ∧ w'.cell? ⟨b3, 0, none⟩ = some (.slice (some ⟨tb, tq, none⟩) T.length cT) ∧ w'.cell? ⟨b3, 1, none⟩ = some (.slice (some ⟨ob, oq, none⟩) O.length cO) ∧ w'.cell? ⟨b3, 2, none⟩ = some (.slice aP P.length cP)) wB := ⟨HZ.out _ HDB.out, HDB.out.c0, HDB.out.c1, HDB.out.c2⟩)
              refine hK.out _ _ (by assumption) (fun _ => ?_)
              try simp only [Act.put, List.setIfInBounds_toArray, List.set_cons_zero, List.set_cons_succ, List.getElem_toArray, List.getElem_cons_succ, List.getElem_cons_zero]
              refine wpAnyH_take (i := 10) (v := ?_) rfl (by kernel_rfl) (by kernel_rfl) (by kernel_rfl) (fun _ _ _ h => h) (Or.inl ⟨by rfl, ?_⟩) (by assumption) ?_
              rotate_left 1
              · (intro w' hSw; (try dsimp only at hSw); go_simp; try with_reducible rfl)
              try simp only [Act.put, List.setIfInBounds_toArray, List.set_cons_zero, List.set_cons_succ, List.getElem_toArray, List.getElem_cons_succ, List.getElem_cons_zero]
              refine wpAnyH_done (by kernel_rfl) ?_ _
              go_wp2
              go_roundw
              case rel => exact ⟨k + 1, by go_num, by omega, HDB⟩
              case measure => first | (simp [intOf]; done) | (simp [intOf]; omega)
            · obtain rfl : k = T.length := by omega
              go_wp2
              go_roundw
              case rel => exact ⟨j + 1, t + p, xT, gT, xO, gO, xP, gP, NO, NP, S, rfl, by go_num, by omega, by omega, by omega, by omega, HDk, HB2, HL2⟩
              case measure => first | (simp [intOf]; done) | (simp [intOf]; omega)
        · have HS3 : Hid (addL (1 + q) S (pathOf T lf) = S2) := HS2.out
          have HLW : Hid (S.length = T.length ∧ ∀ i (h : i < S.length), 0 ≤ S[i]) := ⟨HBd.out.len, HBd.out.low⟩
          go_wp2
          go_loopw [21] (fun sc wq => ∃ (c : Int) (S1 : List Int), sc = .int .i64 c ∧ -1 ≤ c ∧ c < (T.length : Int) ∧ Hid (BS sg yb b3 w wq (some ⟨tb, tq, none⟩) cT (some ⟨ob, oq, none⟩) cO aP cP xT gT xO gO xP gP (some ⟨vb, vq, none⟩) T O P NO NP vs S1) ∧ Hid (addL (1 + q) S1 (pathOf T c) = S2) ∧ Hid (S1.length = T.length ∧ ∀ i (h : i < S1.length), 0 ≤ S1[i])) (fun sc _ => (intOf sc + 1).toNat)
          case atStart => exact ⟨lf, S, rfl, by omega, lf1, HDxY, HS3, HLW⟩
          case round =>
            obtain ⟨c, S1, rfl, hc0, hc1, HD1, HA1, HL1⟩ := hrel
            by_cases hc : 0 ≤ c
            · obtain ⟨k, rfl⟩ := Int.eq_ofNat_of_zero_le hc
              have hk : k < T.length := by omega
              have hk1 : k < S1.length := by rw [HL1.out.1]; exact hk
              have hpath := path_step HPW.out hc hc1
              rw [parent_at hk] at hpath
              have hpw := HPW.out k hk
              obtain ⟨b', q', e', ⟨hx1, hx2, hx3⟩, p0', _⟩ := HD1.out.QT k hk
              cases e'
              have cs := HD1.out.sm k hk1
              have cf := HD1.out.sf k
              have cb := HD1.out.c0
              have nb := HD1.out.n1
              have hk2 : k < S2.length := by rw [HLEN.out]; exact hk
              have hmono : S1[k] ≤ S2[k] := addL_le (n := 1 + q) (by omega) (pathOf T (k : Int)) S1 k _ _ (List.getElem?_eq_getElem hk1) (by rw [HA1.out]; exact List.getElem?_eq_getElem hk2)
              have hsm := HFEW.out k hk2
              have hlw := HL1.out.2 k hk1
              obtain ⟨z, hz⟩ : ∃ z, S1[k] = z := ⟨_, rfl⟩
              rw [hz] at cs hmono hlw
              obtain ⟨pr, hpr⟩ : ∃ x, T[k].1 = x := ⟨_, rfl⟩
              rw [hpr] at hpath hpw p0'
              have HA2 : Hid (addL (1 + q) (S1.set k (z + (1 + q))) (pathOf T pr) = S2) := by
                have e := HA1.out
                rw [hpath, addL_at hk1, hz] at e
                exact e
              have HL3 : Hid ((S1.set k (z + (1 + q))).length = T.length ∧ ∀ i (h : i < (S1.set k (z + (1 + q))).length), 0 ≤ (S1.set k (z + (1 + q)))[i]) := by
                refine ⟨by rw [List.length_set]; exact HL1.out.1, fun i h => ?_⟩
                have h' : i < S1.length := by rw [List.length_set] at h; exact h
                by_cases e : k = i
                · subst e
                  rw [List.getElem_set_self]
                  omega
                · rw [List.getElem_set_ne e]
                  exact HL1.out.2 i h'
              have HD3 : Hid (BS sg yb b3 w (wr.setCell ⟨sg, k, none⟩ (.int .i64 (z + (1 + q)))) (some ⟨tb, tq, none⟩) cT (some ⟨ob, oq, none⟩) cO aP cP xT gT xO gO xP gP (some ⟨vb, vq, none⟩) T O P NO NP vs (S1.set k (z + (1 + q)))) := HD1.out.sum hk1 _
              have hw : IntKind.i64.wrap (z + (1 + q)) = z + (1 + q) := by rw [IntKind.wrap_i64]; omega
              have hkT : (k : Int) < (T.length : Int) := by omega
              have hk0 : ¬ (k : Int) < 0 := by omega
              clear hpath hz hpr HA1 HD1 HL1 hmono hsm
              go_wp2
              go_roundw
              case rel => exact ⟨pr, S1.set k (z + (1 + q)), rfl, by omega, by omega, HD3, HA2, HL3⟩
              case measure => first | (simp [intOf]; done) | (simp [intOf]; omega)
            · have hcn : c < 0 := by omega
              obtain rfl : S1 = S2 := by
                have e := HA1.out
                rw [path_end hcn] at e
                exact e
              go_wp2
              go_loopw [22] (fun sk wq => ∃ k : Nat, sk = .int .i64 k ∧ k ≤ T.length ∧ Hid (BS sg yb b3 w wq (some ⟨tb, tq, none⟩) cT (some ⟨ob, oq, none⟩) cO aP cP xT gT xO gO xP gP (some ⟨vb, vq, none⟩) T O P NO NP vs S1)) (fun sk _ => T.length - (intOf sk).toNat)
              case atStart => exact ⟨0, rfl, by omega, HD1⟩
              case round =>
                obtain ⟨k, rfl, hk, HDk⟩ := hrel
                by_cases hkl : k < T.length
                · have hk2 : k < S1.length := by rw [HLEN.out]; exact hkl
                  have hle := HIN.out k hk2
                  have cs := HDk.out.sm k hk2
                  obtain ⟨z, hz⟩ : ∃ z, S1[k] = z := ⟨_, rfl⟩
                  obtain ⟨bn, hbn⟩ : ∃ x, boundAns T O P (k : Int) (t + p - s) = x := ⟨_, rfl⟩
                  rw [hz] at cs hle
                  rw [hbn] at hle
                  have HBN : Hid (boundAns T O P (k : Int) (t + p - s) = bn) := hbn
                  have hle' : ¬ bn < z := by omega
                  have HDd : Hid (BS sg yb b3 w wr.drew (some ⟨tb, tq, none⟩) cT (some ⟨ob, oq, none⟩) cO aP cP xT gT xO gO xP gP (some ⟨vb, vq, none⟩) T O P NO NP vs S1) := HDk.out.next (Below.refl _ _).drew
                  have HZ : Hid (∀ wx : World, BS sg yb b3 w wx (some ⟨tb, tq, none⟩) cT (some ⟨ob, oq, none⟩) cO aP cP xT gT xO gO xP gP (some ⟨vb, vq, none⟩) T O P NO NP vs S1 → wx.cell? ⟨sg, k, none⟩ = some (.int .i64 z)) := fun wx h => by rw [← hz]; exact h.sm k hk2
                  have hc0 := HDk.out.c0
                  have hc1 := HDk.out.c1
                  have hc2 := HDk.out.c2
                  have hkT : (k : Int) < (T.length : Int) := by omega
                  have hk0 : ¬ (k : Int) < 0 := by omega
                  clear hz hbn
                  go_wp2
                  refine wp_region_held_drew (S := fun w' => w'.cell? ⟨sg, k, none⟩ = some (.int .i64 z) ∧ w'.cell? ⟨b3, 0, none⟩ = some (.slice (some ⟨tb, tq, none⟩) T.length cT) ∧ w'.cell? ⟨b3, 1, none⟩ = some (.slice (some ⟨ob, oq, none⟩) O.length cO) ∧ w'.cell? ⟨b3, 2, none⟩ = some (.slice aP P.length cP)) (by kernel_rfl) (⟨cs, hc0, hc1, hc2⟩) (fun hS => ?_)
                  refine wpAnyH_take (i := 0) (v := ?_) rfl (by kernel_rfl) (by kernel_rfl) (by kernel_rfl) (fun _ _ _ h => h) (Or.inl ⟨by rfl, ?_⟩) (by assumption) ?_
                  rotate_left 1
                  · (intro w' hSw; (try dsimp only at hSw); go_simp; try with_reducible rfl)
                  try simp only [Act.put, List.setIfInBounds_toArray, List.set_cons_zero, List.set_cons_succ, List.getElem_toArray, List.getElem_cons_succ, List.getElem_cons_zero]
                  refine wpAnyH_take (i := 1) (v := ?_) rfl (by kernel_rfl) (by kernel_rfl) (by kernel_rfl) (fun _ _ _ h => h) (Or.inl ⟨by rfl, ?_⟩) (by assumption) ?_
                  rotate_left 1
                  · (intro w' hSw; (try dsimp only at hSw); go_simp; try with_reducible rfl)
                  try simp only [Act.put, List.setIfInBounds_toArray, List.set_cons_zero, List.set_cons_succ, List.getElem_toArray, List.getElem_cons_succ, List.getElem_cons_zero]
                  refine wpAnyH_take (i := 2) (v := ?_) rfl (by kernel_rfl) (by kernel_rfl) (by kernel_rfl) (fun _ _ _ h => h) (Or.inl ⟨by rfl, ?_⟩) (by assumption) ?_
                  rotate_left 1
                  · (intro w' hSw; (try dsimp only at hSw); go_simp; try with_reducible rfl)
                  try simp only [Act.put, List.setIfInBounds_toArray, List.set_cons_zero, List.set_cons_succ, List.getElem_toArray, List.getElem_cons_succ, List.getElem_cons_zero]
                  refine wpAnyH_take (i := 3) (v := ?_) rfl (by kernel_rfl) (by kernel_rfl) (by kernel_rfl) (fun _ _ _ h => h) (Or.inl ⟨by rfl, ?_⟩) (by assumption) ?_
                  rotate_left 1
                  · (intro w' hSw; (try dsimp only at hSw); go_simp; try with_reducible rfl)
                  try simp only [Act.put, List.setIfInBounds_toArray, List.set_cons_zero, List.set_cons_succ, List.getElem_toArray, List.getElem_cons_succ, List.getElem_cons_zero]
                  refine wpAnyH_take (i := 4) (v := ?_) rfl (by kernel_rfl) (by kernel_rfl) (by kernel_rfl) (fun _ _ _ h => h) (Or.inl ⟨by rfl, ?_⟩) (by assumption) ?_
                  rotate_left 1
                  · (intro w' hSw; (try dsimp only at hSw); go_simp; try with_reducible rfl)
                  try simp only [Act.put, List.setIfInBounds_toArray, List.set_cons_zero, List.set_cons_succ, List.getElem_toArray, List.getElem_cons_succ, List.getElem_cons_zero]
                  refine wpAnyH_take (i := 5) (v := ?_) rfl (by kernel_rfl) (by kernel_rfl) (by kernel_rfl) (fun _ _ _ h => h) (Or.inl ⟨by rfl, ?_⟩) (by assumption) ?_
                  rotate_left 1
                  · (intro w' hSw; (try dsimp only at hSw); go_simp; try with_reducible rfl)
                  try simp only [Act.put, List.setIfInBounds_toArray, List.set_cons_zero, List.set_cons_succ, List.getElem_toArray, List.getElem_cons_succ, List.getElem_cons_zero]
                  refine wpAnyH_take (i := 6) (v := ?_) rfl (by kernel_rfl) (by kernel_rfl) (by kernel_rfl) (fun _ _ _ h => h) (Or.inl ⟨by rfl, ?_⟩) (by assumption) ?_
                  rotate_left 1
                  · (intro w' hSw; (try dsimp only at hSw); go_simp; try with_reducible rfl)
                  try simp only [Act.put, List.setIfInBounds_toArray, List.set_cons_zero, List.set_cons_succ, List.getElem_toArray, List.getElem_cons_succ, List.getElem_cons_zero]
                  refine wpAnyH_take (i := 7) (v := ?_) rfl (by kernel_rfl) (by kernel_rfl) (by kernel_rfl) (fun _ _ _ h => h) (Or.inl ⟨by rfl, ?_⟩) (by assumption) ?_
                  rotate_left 1
                  · (intro w' hSw; (try dsimp only at hSw); go_simp; try with_reducible rfl)
                  try simp only [Act.put, List.setIfInBounds_toArray, List.set_cons_zero, List.set_cons_succ, List.getElem_toArray, List.getElem_cons_succ, List.getElem_cons_zero]
                  refine wpAnyH_take (i := 8) (v := ?_) rfl (by kernel_rfl) (by kernel_rfl) (by kernel_rfl) (fun _ _ _ h => h) (Or.inl ⟨by rfl, ?_⟩) (by assumption) ?_
                  rotate_left 1
                  · (intro w' hSw; (try dsimp only at hSw); go_simp; try with_reducible rfl)
                  try simp only [Act.put, List.setIfInBounds_toArray, List.set_cons_zero, List.set_cons_succ, List.getElem_toArray, List.getElem_cons_succ, List.getElem_cons_zero]
                  refine wpAnyH_ready (rs := [9]) (by kernel_rfl) (by simp) (AllReadyH.cons rfl (fun K hK => ?_) AllReadyH.nil)
                  go_simp
                  (refine (iBound_any cT cO cP (k : Int) (t + p - s) HDd.out.QT.quad HDd.out.QO.quad HDd.out.QP.quad).mono ?_; rintro e wB ⟨rfl, hbB⟩; rw [HBN.out]; have HDB : Hid (BS sg yb b3 w wB (some ⟨tb, tq, none⟩) cT (some ⟨ob, oq, none⟩) cO aP cP xT gT xO gO xP gP (some ⟨vb, vq, none⟩) T O P NO NP vs S1) := HDd.out.next hbB; have hSq : (fun w' => w'.cell? ⟨sg, k, none⟩ = some (.int .i64 z) ∧ w'.cell? ⟨b3, 0, none⟩ = some (.slice (some ⟨tb, tq, none⟩) T.length cT) ∧ w'.cell? ⟨b3, 1, none⟩ = some (.slice (some ⟨ob, oq, none⟩) O.length cO) ∧ w'.cell? ⟨b3, 2, none⟩ = some (.slice aP P.length cP)) wB := ⟨HZ.out _ HDB.out, HDB.out.c0, HDB.out.c1, HDB.out.c2⟩)
                  refine hK.out _ _ (by assumption) (fun _ => ?_)
                  try simp only [Act.put, List.setIfInBounds_toArray, List.set_cons_zero, List.set_cons_succ, List.getElem_toArray, List.getElem_cons_succ, List.getElem_cons_zero]
                  refine wpAnyH_take (i := 10) (v := ?_) rfl (by kernel_rfl) (by kernel_rfl) (by kernel_rfl) (fun _ _ _ h => h) (Or.inl ⟨by rfl, ?_⟩) (by assumption) ?_
                  rotate_left 1
                  · (intro w' hSw; (try dsimp only at hSw); go_simp; try with_reducible rfl)
                  try simp only [Act.put, List.setIfInBounds_toArray, List.set_cons_zero, List.set_cons_succ, List.getElem_toArray, List.getElem_cons_succ, List.getElem_cons_zero]
                  refine wpAnyH_done (by kernel_rfl) ?_ _
                  go_wp2
                  go_roundw
                  case rel => exact ⟨k + 1, by go_num, by omega, HDB⟩
                  case measure => first | (simp [intOf]; done) | (simp [intOf]; omega)
                · obtain rfl : k = T.length := by omega
                  go_wp2
                  go_roundw
                  case rel => exact ⟨j + 1, t + p, xT, gT, xO, gO, xP, gP, NO, NP, S1, rfl, by go_num, by omega, by omega, by omega, by omega, HDk, HB2, HL2⟩
                  case measure => first | (simp [intOf]; done) | (simp [intOf]; omega)
      · obtain rfl : j = 16 := by omega
        have hd0 := HDw.out.d0
        have hd1 := HDw.out.d1
        have hd2 := HDw.out.d2
        go_wp2_with (first
          | (go_at_call 49; refine (iLendOk_any eT eO eP HDw.out.RT.quad HDw.out.RO.quad HDw.out.RP.quad).mono ?_; rintro e wE ⟨rfl, hbE⟩; rw [HLz.out.1]; have hfin := below_step HBw.out hbE))
        go_ret
        exact ⟨rfl, hfin⟩
  · have hbig : (4096 : Int) < (len0 : Int) := by omega
    go_enter Try.func8, Try.ntmps8
    go_wp2
    go_ret
    exact ⟨rfl, Below.refl _ _⟩

/-! ### THE ROW's STEP: WRITTEN OUT: LEAVE IT -/
set_option maxRecDepth 100000 in
theorem lifted (os : Os) (started : os.Started) (H : Type) (enc : TypeId × Value → H) :
    ReturnsInHanded {} Try.checked os 8 .any (Rows.fnBoundedSpec.pre6 enc Try.prog Try.f8 Rows.fnBoundedRow.domain false) (Rows.fnBoundedSpec.post enc Try.prog Try.f8 false true false false) := by
  refine returnsInHanded_of_change (C := Try.checked) own started (by kernel_rfl) Try.func8
    (ChangeSpec.witness6 (enc := enc) (C := Try.checked) false ⟨#[], #[.slice none 0 0], []⟩ 8 (by kernel_rfl) (by kernel_rfl) (by kernel_rfl) (by kernel_rfl)) ?_
  intro W base args ds gs before hval0 hW hcnd _
  have hval : ∀ (j : Nat) t v, Try.f8.params[j]? = some t → args[j]? = some v → Value.okWide Try.prog W .any base t v := hval0
  have hW' := hW
  obtain ⟨p, q, hA0, hV, rfl, hfz, hnd⟩ := hW
  have hA : DataW.TrodAll enc Try.prog W 0 (fun _ => true) true Try.f8.params.toList args.toList ds p := hA0
  rw [Try.params8] at hA hval
  obtain ⟨v0, vs0, d0, ds0, p0, q0, hargs, rfl, rfl, h0, r0⟩ := trodAll_cons hA
  obtain ⟨rfl, rfl, rfl⟩ := trodAll_nil r0
  obtain rfl : args = #[v0] := by cases args; simp_all
  obtain ⟨rfl, rfl⟩ := trodVars_none hV
  obtain ⟨a0, len0, cap0, rfl⟩ := okWide_slice Try.underlying22 (hval 0 22 v0 rfl rfl)
  have k0 := h0
  have lt0 : ∀ x ∈ p0, x.block < W.heap.size := by obtain ⟨m, hm⟩ := k0; exact DataW.trod_lt m _ _ _ hm
  obtain ⟨z0, w0⟩ : ∃ zs, IsRow .u8 W a0 len0 cap0 zs := by
    obtain ⟨fuel, hf⟩ := h0
    rcases open_ints Try.underlying22 Try.underlying5 (by kernel_rfl) hf with ⟨hcs, _⟩ | ⟨x, l, c, zs, hcs, _, hl, hm, hz, _, hcell, hwz⟩
    · simp [Value.cells] at hcs
      obtain ⟨rfl, rfl, rfl⟩ := hcs
      exact ⟨[], .inl ⟨rfl, rfl, rfl, rfl⟩⟩
    · simp [Value.cells] at hcs
      obtain ⟨rfl, rfl, rfl⟩ := hcs
      exact ⟨zs, .inr ⟨_, rfl, hl, hm, by simpa using hz, hcell, hwz⟩⟩
  clear hA0 hval0
  refine (walk a0 len0 cap0 z0 W w0).mono fun e W' ⟨he, bel⟩ => ?_
  subst he
  exact ⟨_, rfl, _, _, _, [], _, [], hW', trodAll_mk1 (shut_bool Try.underlying4 _), (trodAll_cons_mk (Below.trod laidOut (by kernel_rfl) (of_decide_eq_true (by kernel_rfl)) k0 bel lt0) trodAll_mk0), rfl, bel.frame _, fun h => by cases h⟩

theorem over : Rows.fnBoundedRow.holds Try.pinned (OpenSpec.ofChange Rows.fnBoundedSpec) :=
  OpenClaim.holds_of_wide 8 Try.f8 rfl rfl rfl rfl rfl rfl rfl ⟨rfl, rfl, rfl, rfl, rfl⟩ rfl rfl rfl rfl rfl (by kernel_rfl) Try.func8 (by kernel_rfl)
    (of_decide_eq_true (by kernel_rfl)) (by unfold Func.isWrapper; first | (rw [if_pos (by decide +kernel)]; kernel_rfl) | (rw [if_neg (by decide +kernel)]; exact ⟨rfl, rfl⟩))
    (fun os started H enc _ => lifted os started H enc)

/-- ████ THE STATEMENT ████ -/
theorem proved : Rows.FnBoundedSaid := over
#print axioms proved
end Go.Proofs.Ytmophpbfaonfmac.fnBounded
namespace Go.Proofs.Ytmophpbfaonfmac
theorem fnBounded_holds : Rows.FnBoundedSaid := fnBounded.proved
#print axioms fnBounded_holds
end Go.Proofs.Ytmophpbfaonfmac
