/- Proved: whatever the bytes, the law FnTrees returns true (at the list of classes and the number that the model draws of them impl's TreeOk, Path, Leaves, Under and Spare answer as spec's do; a path begins with its class and ends with the first one; just what is under a class has it on its path; the spare rate and the children's rates make the class's rate), and the bytes read as before; no condition. -/
import Derived.Test.YtbpmnldlgmpfcacRows
import Derived.WalkKit
import Derived.ProofKit
import Derived.OpenShut
import Derived.ShutString
import Derived.ChangeOld
import Derived.Below
import Derived.Test.YtbpmnldlgmpfcacImplPath
import Derived.Test.YtbpmnldlgmpfcacTreeLaw
import Derived.Test.YtbpmnldlgmpfcacLikeI
import Derived.Test.YtbpmnldlgmpfcacDraw6c
import Derived.Deep.DeepCutAuto
namespace Go.Proofs.Ytbpmnldlgmpfcac.fnTrees
open Go.ChangeShapes Go.WideShapes Go.ChangeAt Go.RowKit
open Go.ChangeMaps (open_string shut_string)
set_option linter.unusedVariables false

theorem own : ownKnob Try.prog.godebug = none := by kernel_rfl
theorem laidOut : laidOutB Try.prog = true := by kernel_rfl

/-- WHAT THE WALK IS TOLD OF A SLICE OF INTEGERS THAT CAME IN: it is nil; or it leads to a row of 'cap' cells, the numbers 'zs' (the first 'len' are its elements, the rest its spare room), each fitting its kind. -/
def IsRow (k : IntKind) (w : World) (a : Option Addr) (len cap : Nat) (zs : List Int) : Prop :=
  (a = none ∧ len = 0 ∧ cap = 0 ∧ zs = []) ∨
  ∃ x, a = some x ∧ len ≤ cap ∧ cap ≤ maxLen ∧ zs.length = cap ∧ (∀ i, i < zs.length → w.cell? (x.add i) = some (.int k (zs.getD i 0))) ∧ ∀ n ∈ zs, (Lit.int k n).wf = true

set_option linter.unusedSimpArgs false
set_option maxRecDepth 100000
theorem row_of {w : World} {a : Option Addr} {len cap : Nat} {zs : List Int} (h : IsRow .u8 w a len cap zs) : Row w.heap.size a len w := by
  intro i hi
  rcases h with ⟨rfl, rfl, rfl, rfl⟩ | ⟨x, rfl, hl, hm, hz, hcell, hwz⟩
  · omega
  · obtain ⟨b, off, spot⟩ := x
    have hspot : spot = none := by simpa [Addr.add] using World.cell?_spot (hcell 0 (by omega))
    subst hspot
    have hc := hcell i (by omega)
    have hc' : w.cell? ⟨b, off + i, none⟩ = some (.int .u8 (zs.getD i 0)) := by
      by_cases h0 : i = 0
      · subst h0; simpa [Addr.add] using hc
      · simpa [Addr.add, h0] using hc
    have hlt : i < zs.length := by omega
    have hm : zs.getD i 0 ∈ zs := by simp [List.getD, List.getElem?_eq_getElem hlt]
    obtain ⟨z0, z1⟩ := bounds_u8 (hwz _ hm)
    exact ⟨b, off, zs.getD i 0, rfl, World.block_lt_of_cell? w _ hc', hc', z0, z1⟩
theorem iv_is {w : World} {lo n c : Nat} {a : Option Addr} {xs : List Int} (h : IV w lo (.slice a n c) xs) : n = xs.length ∧ ISmp w.heap.size w a xs := by
  obtain ⟨a', c', e, k⟩ := h.smp
  injection e with e1 e2 e3
  subst e1
  exact ⟨e2, k⟩
theorem same_t {xs : List Int} : decide (xs = xs) = true := decide_eq_true rfl

/-! ### STEP 1: THE WALK: the Go text returns true, AND WRITES NOTHING THAT WAS THERE: 'Below w.heap.size w w'' (Derived/Below.lean: '.refl', '.alloc', '.drew', '.setCell' at a new block, '.trans'). Open each 'IsRow' by 'rcases' AHEAD of 'go_enter'; part every test ahead of the walk. -/
set_option maxHeartbeats 16000000 in
theorem walk (a0 : Option Addr) (len0 cap0 : Nat) (z0 : List Int) (w : World) (w0 : IsRow .u8 w a0 len0 cap0 z0) :
    Calls Try.prog 7 #[.slice a0 len0 cap0] w fun e w' => e = .returned (.bool true) ∧ Below w.heap.size w w' := by
  have row := row_of w0
  by_cases hs : len0 ≤ 4096
  · go_enter Try.func7, Try.ntmps7
    go_upto_region 4 with (first
      | (go_at_call 31; refine (drawPath_any cap0 hs row (Nat.le_refl _)).mono ?_; rintro e vD ⟨a, c, T, i, rfl, hq, hT, hbw⟩)
      | go_in)
    have hTi : (T.length : Int) ≤ 31 := by omega
    have zz := hbw.size
    go_upto_region 5 with (first
      | (go_at_call 32; refine (iPath_any c i hq).mono ?_; rintro e vP ⟨aiv5, niv5, civ5, rfl, iv5, hbP⟩; have hbw := below_step hbw hbP; have hq := hq.here hbP;  have zz := hbw.size))
    obtain ⟨P, hP⟩ : ∃ P, pathTo T i = P := ⟨_, rfl⟩
    have hPl : P.length ≤ 30 := by rw [← hP]; exact pathTo_length T i
    rw [hP] at iv5
    have HP : Hid (pathTo T i = P) := hP
    clear hP
    obtain ⟨en, _⟩ := iv_is iv5
    subst en
    go_upto_region 7 with (first
      | (go_at_call 33; refine (iTree_any c hq).mono ?_; rintro e v1 ⟨rfl, hb1⟩; have hbw := below_step hbw hb1; have hq := hq.here hb1; have iv5 := iv5.next hb1; have zz := hbw.size)
      | (go_at_call 34; refine (specTree_any c hq).mono ?_; rintro e v2 ⟨rfl, hb2⟩; have hbw := below_step hbw hb2; have hq := hq.here hb2; have iv5 := iv5.next hb2; have zz := hbw.size)
      | (go_at_call 26; have g1 := ivB; refine (likeI_any ivA ivB (by have := leavesOf_length T; omega)).mono ?_; rintro e v7 ⟨rfl, hb7⟩; rw [same_t]; have hbw := below_step hbw hb7; have hq := hq.here hb7; have iv5 := iv5.next hb7; have zz := hbw.size)
      | (go_at_call 35; refine (specPath_any c i hq).mono ?_; rintro e v3 ⟨a6, n6, c6, rfl, iv6, hb3⟩; rw [HP.out] at iv6; have hbw := below_step hbw hb3; have hq := hq.here hb3; have iv5 := iv5.next hb3; have zz := hbw.size)
      | (go_at_call 26; refine (likeI_any iv5 iv6 (by omega)).mono ?_; rintro e v4 ⟨rfl, hb4⟩; rw [same_t]; have hbw := below_step hbw hb4; have hq := hq.here hb4; have iv5 := iv5.next hb4; have zz := hbw.size)
      | (go_at_call 36; refine (iLeaves_any c hq).mono ?_; rintro e v5 ⟨aivA, nivA, civA, rfl, ivA, hb5⟩; have hbw := below_step hbw hb5; have hq := hq.here hb5; have iv5 := iv5.next hb5; have zz := hbw.size)
      | (go_at_call 37; refine (specLeaves_any c hq (by omega)).mono ?_; rintro e v6 ⟨aivB, nivB, civB, rfl, ivB, hb6⟩; have hbw := below_step hbw hb6; have hq := hq.here hb6; have iv5 := iv5.next hb6; have ivA := ivA.next hb6; have zz := hbw.size))
    clear iv6 ivA ivB
    go_upto_region 8 with (first
      | (go_at_call 38; refine (iUnder_any c i hq).mono ?_; rintro e v8 ⟨aivU, nivU, civU, rfl, ivU, hb8⟩; have hbw := below_step hbw hb8; have hq := hq.here hb8; have iv5 := iv5.next hb8; have zz := hbw.size))
    obtain ⟨U, hU⟩ : ∃ U, underOf T i = U := ⟨_, rfl⟩
    have hUl : U.length ≤ 30 := by rw [← hU]; exact underOf_length T i
    rw [hU] at ivU
    have HU : Hid (underOf T i = U) := hU
    clear hU
    obtain ⟨en, _⟩ := iv_is ivU
    subst en
    go_upto_region 10 with (first
      | (go_at_call 39; refine (specUnder_any c i hq).mono ?_; rintro e v9 ⟨aV, nV, cV, rfl, ivV, hb9⟩; rw [HU.out] at ivV; have hbw := below_step hbw hb9; have hq := hq.here hb9; have iv5 := iv5.next hb9; have ivU := ivU.next hb9; have zz := hbw.size)
      | (go_at_call 26; refine (likeI_any ivU ivV (by omega)).mono ?_; rintro e v10 ⟨rfl, hb10⟩; rw [same_t]; have hbw := below_step hbw hb10; have hq := hq.here hb10; have iv5 := iv5.next hb10; have ivU := ivU.next hb10; have zz := hbw.size)
      | (go_at_call 40; refine (iSpare_any c i hq).mono ?_; rintro e v11 ⟨rfl, hb11⟩; have hbw := below_step hbw hb11; have hq := hq.here hb11; have iv5 := iv5.next hb11; have ivU := ivU.next hb11; have zz := hbw.size)
      | (go_at_call 41; refine (specSpare_any c i hq).mono ?_; rintro e v12 ⟨rfl, hb12⟩; have hbw := below_step hbw hb12; have hq := hq.here hb12; have iv5 := iv5.next hb12; have ivU := ivU.next hb12; have zz := hbw.size))
    clear ivV
    cases hh : hasB T i
    · have e1 : P = [] := by rw [← HP.out]; unfold pathTo; rw [hh]; rfl
      have e2 : U = [] := by rw [← HU.out]; unfold underOf; rw [hh]; rfl
      have e3 : spareOf T i = -1 := by unfold spareOf; rw [hh]; rfl
      subst e1
      subst e2
      rw [List.length_nil]
      go_wp2_with (first
        | (go_at_call 40; refine (iSpare_any c i hq).mono ?_; rintro e v13 ⟨rfl, hb13⟩; rw [e3]; have hbw := below_step hbw hb13))
      go_ret
      exact ⟨rfl, hbw⟩
    · obtain ⟨ht, i0, i1⟩ := has_tree hh
      obtain ⟨m, rfl⟩ : ∃ m : Nat, i = m := ⟨i.toNat, by omega⟩
      have hm : m < T.length := by omega
      have hmi : (m : Int) < (T.length : Int) := by omega
      have hl30 := ht.l1
      have HS : Hid (Sound T) := ht.sound
      have hPe : P = pathOf T (m : Int) := by rw [← HP.out]; exact path_is hh hm
      have hUe : U = underTo T (m : Int) T.length := by rw [← HU.out]; unfold underOf; rw [if_pos hh]
      have hP0 : P = (m : Int) :: pathOf T (parentOf T (m : Int)) := by rw [hPe]; exact path_step HS.out.well i0 i1
      have hPn : 1 ≤ P.length := by rw [hP0]; simp
      have HP0 : Hid (∀ h : 0 < P.length, P[0] = (m : Int)) := fun h => by subst hP0; rfl
      have HPL : Hid (∀ h : P.length - 1 < P.length, P[P.length - 1] = 0) := fun h => last_at (by rw [hPe]; exact path_last HS.out (m + 1) (m : Int) i0 i1 (by omega)) h
      have HUE : Hid (U = underTo T (m : Int) T.length) := hUe
      have hR := HS.out.rate m hm
      obtain ⟨R, hr⟩ : ∃ R, T[m].2.1 = R := ⟨_, rfl⟩
      have HR : Hid (T[m].2.1 = R) := hr
      rw [hr] at hR
      have hsum := ht.sum m hm
      rw [rateOf_at hm, hr] at hsum
      obtain ⟨K, hK⟩ : ∃ K, kidTo T (m : Int) T.length = K := ⟨_, rfl⟩
      have HK : Hid (kidTo T (m : Int) T.length = K) := hK
      have hkb := HS.out.kids (m : Int) T.length
      rw [hK] at hsum hkb
      have e3 : spareOf T (m : Int) = R - K := by
        unfold spareOf
        rw [if_pos hh, Int.toNat_natCast, rateOf_at hm, hr, hK]
      have hR0 := hR.1
      have hR1 := hR.2
      have hk0 := hkb.1
      clear hr hR hkb hK hPe hUe hP0 ht
      have hpn : ((P.length : Int) == 0) = false := by rw [beq_eq_false_iff_ne]; omega
      go_upto_region 13 with (first
        | (go_at_call 40; refine (iSpare_any c (m : Int) hq).mono ?_; rintro e v13 ⟨rfl, hb13⟩; rw [e3]; have hbw := below_step hbw hb13; have hq := hq.here hb13; have iv5 := iv5.next hb13; have ivU := ivU.next hb13; have zz := hbw.size))
      go_wp2
      go_loopw [7, 8] (fun sm s wr => ∃ (k : Nat) (v : Int), s = .int .i64 k ∧ k ≤ T.length ∧ sm = .int .i64 v ∧ Hid (v = R - K + kidTo T (m : Int) k) ∧ Below v13.heap.size v13 wr) (fun _ s _ => T.length - (intOf s).toNat)
      case atStart => exact ⟨0, R - K, rfl, by omega, rfl, (Int.add_zero _).symm, Below.refl _ _⟩
      case round =>
        obtain ⟨k, v, rfl, hk, rfl, HV, hbr⟩ := hrel
        have hbw := below_step hbw hbr
        have hq := hq.here hbr
        have iv5 := iv5.next hbr
        have ivU := ivU.next hbr
        have hv := HS.out.kids (m : Int) k
        have hv0 : 0 ≤ v := by rw [HV.out]; omega
        have hv1 : v ≤ 40000000000000 := by rw [HV.out]; omega
        clear hv
        by_cases hlt : k < T.length
        · have hlt' : (k : Int) < (T.length : Int) := by omega
          go_upto_region 17 with (first
            | (go_at_call 32; refine (iPath_any c (k : Int) hq).mono ?_; rintro e vQ ⟨aQ, nQ, cQ, rfl, ivQ, hbQ⟩; rw [path_is hh hlt] at ivQ; have hbr := below_step hbr hbQ; have hbw := below_step hbw hbQ; have hq := hq.here hbQ; have iv5 := iv5.next hbQ; have ivU := ivU.next hbQ; have zz := hbw.size))
          obtain ⟨Q, hQ⟩ : ∃ Q, pathOf T (k : Int) = Q := ⟨_, rfl⟩
          have hQl : Q.length ≤ 30 := by rw [← hQ]; exact Nat.le_trans (path_length (by omega)) hl30
          have HQ : Hid (pathOf T (k : Int) = Q) := hQ
          rw [hQ] at ivQ
          clear hQ
          obtain ⟨en, isQ⟩ := iv_is ivQ
          subst en
          have HON : Hid (U.contains (k : Int) = Q.contains (m : Int)) := by
            show U.contains (k : Int) = Q.contains (m : Int)
            rw [HUE.out, under_has hlt, HQ.out]
          have isU := (iv_is ivU).2
          have hQi : (Q.length : Int) ≤ 30 := by omega
          have hUi : (U.length : Int) ≤ 30 := by omega
          go_wp2
          go_loop [10, 11] (fun on s => ∃ (j : Nat) (f : Bool), s = .int .i64 j ∧ j ≤ Q.length ∧ on = .bool f ∧ Hid ((Q.take j).contains (m : Int) = f)) (fun _ s => Q.length - (intOf s).toNat)
          case atStart => exact ⟨0, false, rfl, by omega, rfl, by show (Q.take 0).contains (m : Int) = false; simp⟩
          case round =>
            obtain ⟨j, f, rfl, hj, rfl, HF⟩ := hrel
            by_cases hlj : j < Q.length
            · have hlj' : (j : Int) < (Q.length : Int) := by omega
              obtain ⟨bq, oq, rfl, hbq, cq⟩ := isQ j hlj
              have hst := con_step (i := (m : Int)) hlj
              obtain ⟨x, hx⟩ : ∃ x, Q[j] = x := ⟨_, rfl⟩
              rw [hx] at cq hst
              rw [HF.out] at hst
              clear hx
              cases f
              · have HST : Hid ((Q.take (j + 1)).contains (m : Int) = (x == (m : Int))) := by rw [Bool.false_or] at hst; exact hst
                clear hst
                go_wp2
                go_round
                case rel => exact ⟨j + 1, _, by go_num, by omega, rfl, HST⟩
                case measure => first | (simp [intOf]; done) | (simp [intOf]; omega)
              · have HST : Hid ((Q.take (j + 1)).contains (m : Int) = true) := by rw [Bool.true_or] at hst; exact hst
                clear hst
                go_wp2
                go_round
                case rel => exact ⟨j + 1, _, by go_num, by omega, rfl, HST⟩
                case measure => first | (simp [intOf]; done) | (simp [intOf]; omega)
            · have e : j = Q.length := by omega
              subst e
              have HO : Hid (Q.contains (m : Int) = f) := by
                have h := HF.out
                rw [List.take_length] at h
                exact h
              clear HF
              go_wp2
              go_loop [12, 13] (fun on s => ∃ (j : Nat) (f : Bool), s = .int .i64 j ∧ j ≤ U.length ∧ on = .bool f ∧ Hid ((U.take j).contains (k : Int) = f)) (fun _ s => U.length - (intOf s).toNat)
              case atStart => exact ⟨0, false, rfl, by omega, rfl, by show (U.take 0).contains (k : Int) = false; simp⟩
              case round =>
                obtain ⟨j, f2, rfl, hj, rfl, HF⟩ := hrel
                by_cases hlj : j < U.length
                · have hlj' : (j : Int) < (U.length : Int) := by omega
                  obtain ⟨bq, oq, rfl, hbq, cq⟩ := isU j hlj
                  have hst := con_step (i := (k : Int)) hlj
                  obtain ⟨x, hx⟩ : ∃ x, U[j] = x := ⟨_, rfl⟩
                  rw [hx] at cq hst
                  rw [HF.out] at hst
                  clear hx
                  cases f2
                  · have HST : Hid ((U.take (j + 1)).contains (k : Int) = (x == (k : Int))) := by rw [Bool.false_or] at hst; exact hst
                    clear hst
                    go_wp2
                    go_round
                    case rel => exact ⟨j + 1, _, by go_num, by omega, rfl, HST⟩
                    case measure => first | (simp [intOf]; done) | (simp [intOf]; omega)
                  · have HST : Hid ((U.take (j + 1)).contains (k : Int) = true) := by rw [Bool.true_or] at hst; exact hst
                    clear hst
                    go_wp2
                    go_round
                    case rel => exact ⟨j + 1, _, by go_num, by omega, rfl, HST⟩
                    case measure => first | (simp [intOf]; done) | (simp [intOf]; omega)
                · have e : j = U.length := by omega
                  subst e
                  have hff : f2 = f := by
                    have h := HF.out
                    rw [List.take_length, HON.out, HO.out] at h
                    exact h.symm
                  subst hff
                  clear HF HO
                  obtain ⟨bt, ot, rfl, hbt, e0, e1, e2, e3'⟩ := hq k hlt
                  have hr := HS.out.rate k hlt
                  obtain ⟨x, hx⟩ : ∃ x, T[k] = x := ⟨_, rfl⟩
                  rw [hx] at e0 e1 e2 e3' hr
                  obtain ⟨p, r, cc, u⟩ := x
                  have HX : Hid (T[k] = (p, r, cc, u)) := hx
                  clear hx
                  simp only at e0 e1 e2 e3' hr
                  have hr0 := hr.1
                  have hr1 := hr.2
                  clear hr
                  by_cases hp : p = (m : Int)
                  · have HN : Hid (v + r = R - K + kidTo T (m : Int) (k + 1)) := by
                      show v + r = R - K + (kidTo T (m : Int) k + kidAt T (m : Int) k)
                      rw [kidAt_yes hlt (by rw [HX.out]; exact hp), HX.out, HV.out]
                      simp only
                      omega
                    subst hp
                    go_wp2
                    go_roundw
                    case rel => exact ⟨k + 1, v + r, by go_num, by omega, rfl, HN, hbr⟩
                    case measure => first | (simp [intOf]; done) | (simp [intOf]; omega)
                  · have HN : Hid (v = R - K + kidTo T (m : Int) (k + 1)) := by
                      show v = R - K + (kidTo T (m : Int) k + kidAt T (m : Int) k)
                      rw [kidAt_no hlt (by rw [HX.out]; exact hp), Int.add_zero]
                      exact HV.out
                    have hp' : (p == (m : Int)) = false := by simp [hp]
                    go_wp2
                    go_roundw
                    case rel => exact ⟨k + 1, v, by go_num, by omega, rfl, HN, hbr⟩
                    case measure => first | (simp [intOf]; done) | (simp [intOf]; omega)
        · have e : k = T.length := by omega
          subst e
          have hvR : v = R := by
            have h := HV.out
            rw [HK.out] at h
            omega
          subst hvR
          clear HV
          obtain ⟨L, hL⟩ : ∃ L, P.length = L + 1 := ⟨P.length - 1, by omega⟩
          have hLl : (L : Int) ≤ 30 := by omega
          have HPL2 : Hid (∀ h : L < P.length, P[L] = 0) := fun h => by
            have h1 := HPL.out (by omega)
            have e : P.length - 1 = L := by omega
            simp only [e] at h1
            exact h1
          obtain ⟨b5, o5, rfl, hb5', c50⟩ := (iv_is iv5).2 0 (by omega)
          rw [HP0.out, Nat.add_zero] at c50
          obtain ⟨b6, o6, ea, _, c5L⟩ := (iv_is iv5).2 L (by omega)
          injection ea with ea
          injection ea with ea1 ea2 _
          subst ea1 ea2
          rw [HPL2.out] at c5L
          obtain ⟨bt, ot, rfl, hbt, _, cR, _, _⟩ := hq m hm
          rw [HR.out] at cR
          rw [hL]
          have hsp : 0 ≤ v - K := by omega
          clear hL hpn
          go_wp2_with (first
            | (go_at_call 40; refine (iSpare_any c (m : Int) hq).mono ?_; rintro e v14 ⟨rfl, hb14⟩; rw [e3]; have hbw := below_step hbw hb14))
          go_ret
          exact ⟨rfl, hbw⟩
  · have hbig : (4096 : Int) < (len0 : Int) := by omega
    go_enter Try.func7, Try.ntmps7
    go_wp2
    go_ret
    exact ⟨rfl, Below.refl _ _⟩

/-! ### THE ROW's STEP: WRITTEN OUT: LEAVE IT -/
set_option maxRecDepth 100000 in
theorem lifted (os : Os) (started : os.Started) (H : Type) (enc : TypeId × Value → H) :
    ReturnsInHanded {} Try.checked os 7 .any (Rows.fnTreesSpec.pre6 enc Try.prog Try.f7 Rows.fnTreesRow.domain false) (Rows.fnTreesSpec.post enc Try.prog Try.f7 false true false false) := by
  refine returnsInHanded_of_change (C := Try.checked) own started (by kernel_rfl) Try.func7
    (ChangeSpec.witness6 (enc := enc) (C := Try.checked) false ⟨#[], #[.slice none 0 0], []⟩ 8 (by kernel_rfl) (by kernel_rfl) (by kernel_rfl) (by kernel_rfl)) ?_
  intro W base args ds gs before hval0 hW hcnd _
  have hval : ∀ (j : Nat) t v, Try.f7.params[j]? = some t → args[j]? = some v → Value.okWide Try.prog W .any base t v := hval0
  have hW' := hW
  obtain ⟨p, q, hA0, hV, rfl, hfz, hnd⟩ := hW
  have hA : DataW.TrodAll enc Try.prog W 0 (fun _ => true) true Try.f7.params.toList args.toList ds p := hA0
  rw [Try.params7] at hA hval
  obtain ⟨v0, vs0, d0, ds0, p0, q0, hargs, rfl, rfl, h0, r0⟩ := trodAll_cons hA
  obtain ⟨rfl, rfl, rfl⟩ := trodAll_nil r0
  obtain rfl : args = #[v0] := by cases args; simp_all
  obtain ⟨rfl, rfl⟩ := trodVars_none hV
  obtain ⟨a0, len0, cap0, rfl⟩ := okWide_slice Try.underlying22 (hval 0 22 v0 rfl rfl)
  have k0 := h0
  have lt0 : ∀ x ∈ p0, x.block < W.heap.size := by obtain ⟨m, hm⟩ := k0; exact DataW.trod_lt m _ _ _ hm
  obtain ⟨z0, w0⟩ : ∃ zs, IsRow .u8 W a0 len0 cap0 zs := by
    obtain ⟨fuel, hf⟩ := h0
    rcases open_ints Try.underlying22 Try.underlying5 (by kernel_rfl) hf with ⟨hcs, _⟩ | ⟨x, l, c, zs, hcs, _, hl, hm, hz, _, hcell, hwz⟩
    · simp [Value.cells] at hcs
      obtain ⟨rfl, rfl, rfl⟩ := hcs
      exact ⟨[], .inl ⟨rfl, rfl, rfl, rfl⟩⟩
    · simp [Value.cells] at hcs
      obtain ⟨rfl, rfl, rfl⟩ := hcs
      exact ⟨zs, .inr ⟨_, rfl, hl, hm, by simpa using hz, hcell, hwz⟩⟩
  clear hA0 hval0
  refine (walk a0 len0 cap0 z0 W w0).mono fun e W' ⟨he, bel⟩ => ?_
  subst he
  exact ⟨_, rfl, _, _, _, [], _, [], hW', trodAll_mk1 (shut_bool Try.underlying4 _), (trodAll_cons_mk (Below.trod laidOut (by kernel_rfl) (of_decide_eq_true (by kernel_rfl)) k0 bel lt0) trodAll_mk0), rfl, bel.frame _, fun h => by cases h⟩

theorem over : Rows.fnTreesRow.holds Try.pinned (OpenSpec.ofChange Rows.fnTreesSpec) :=
  OpenClaim.holds_of_wide 7 Try.f7 rfl rfl rfl rfl rfl rfl rfl ⟨rfl, rfl, rfl, rfl, rfl⟩ rfl rfl rfl rfl rfl (by kernel_rfl) Try.func7 (by kernel_rfl)
    (of_decide_eq_true (by kernel_rfl)) (by unfold Func.isWrapper; first | (rw [if_pos (by decide +kernel)]; kernel_rfl) | (rw [if_neg (by decide +kernel)]; exact ⟨rfl, rfl⟩))
    (fun os started H enc _ => lifted os started H enc)

/-- ████ THE STATEMENT ████ -/
theorem proved : Rows.FnTreesSaid := over
#print axioms proved
end Go.Proofs.Ytbpmnldlgmpfcac.fnTrees
namespace Go.Proofs.Ytbpmnldlgmpfcac
theorem fnTrees_holds : Rows.FnTreesSaid := fnTrees.proved
#print axioms fnTrees_holds
end Go.Proofs.Ytbpmnldlgmpfcac
