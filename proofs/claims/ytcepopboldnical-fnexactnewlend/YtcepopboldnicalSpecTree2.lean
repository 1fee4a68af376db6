/- What spec.l6Class, l6Path, Path, Leaves, Spare answer. -/
import Derived.Test.YtcepopboldnicalSpecTree
import Derived.Test.YtcepopboldnicalIntOwn
namespace Go.Proofs.Ytcepopboldnical
open Go.ChangeShapes Go.WideShapes Go.ChangeAt Go.RowKit
set_option maxRecDepth 100000
set_option linter.unusedVariables false
set_option linter.unusedSimpArgs false

/-- A list of numbers that was made anew. -/
def ListPost (w : World) (xs : List Int) (e : Ending) (w' : World) : Prop := ∃ a n c, e = .returned (.slice a n c) ∧ IV w' w.heap.size (.slice a n c) xs ∧ Below w.heap.size w w'
theorem below_app {w wr w' : World} {o : Obj} {row : Option Nat} (hb : Below w.heap.size w wr) (hg : (wr.alloc o).grownBy w' row) (hr : ∀ g, row = some g → w.heap.size ≤ g) : Below w.heap.size w w' :=
  (hb.alloc hb.size o).grown hg (Nat.le_trans hb.size (by simp)) hr
theorem iv_new (w : World) (lo : Nat) (t : TypeId) (h : lo ≤ w.heap.size) : IV (w.alloc (.cells #[] t)) lo (.slice (some ⟨w.heap.size, 0, none⟩) 0 0) [] :=
  .inl ⟨_, _, rfl, h, by simp, ⟨fun j hj => (by cases hj), fun j hj => (by cases hj)⟩, Nat.le_refl _⟩
set_option maxHeartbeats 1000000 in
theorem specClass_any {w : World} {a : Option Addr} (cap : Nat) {ts : List Q4} (i : Int) (h : Quad w.heap.size w a ts) :
    Calls Try.prog 33 #[.slice a ts.length cap, .int .i64 i] w fun e w' => e = .returned (.bool (hasB ts i)) ∧ Below w.heap.size w w' := by
  by_cases hc : treeCode ts = 0
  · have hn := (tree_of hc).l1
    have hn0 := (tree_of hc).l0
    have HH : Hid (hasB ts i = (decide (0 ≤ i) && decide (i ≤ (ts.length : Int) - 1))) := by
      show hasB ts i = _
      unfold hasB
      rw [decide_eq_true hc]
      rfl
    go_enter Try.func33, Try.ntmps33
    go_wp2_with (first
      | (go_at_call 39; refine (specTree_any cap h).mono ?_; rintro e w2 ⟨rfl, hb2⟩; rw [hc])
      | (go_at_call 59; refine (in_any _ _ _ _).mono ?_; rintro e w2 ⟨rfl, rfl⟩))
    go_ret
    exact ⟨retQ HH.out.symm, hb2⟩
  · have hc' : (treeCode ts == 0) = false := by simp [hc]
    have HH : Hid (hasB ts i = false) := by
      show hasB ts i = _
      unfold hasB
      rw [decide_eq_false hc]
      rfl
    go_enter Try.func33, Try.ntmps33
    go_wp2_with (first
      | (go_at_call 39; refine (specTree_any cap h).mono ?_; rintro e w2 ⟨rfl, hb2⟩))
    go_ret
    exact ⟨retQ HH.out.symm, hb2⟩
theorem specClass_is {w : World} {a : Option Addr} (cap : Nat) {ts : List Q4} {i : Int} {f : Bool} (hf : hasB ts i = f) (h : Quad w.heap.size w a ts) :
    Calls Try.prog 33 #[.slice a ts.length cap, .int .i64 i] w fun e w' => e = .returned (.bool f) ∧ Below w.heap.size w w' := by subst hf; exact specClass_any cap i h
set_option maxHeartbeats 1000000 in
theorem specL6Path_any {w : World} {a : Option Addr} (cap : Nat) {ts : List Q4} (i : Int) (h : Quad w.heap.size w a ts) (hw : PWell ts) (hl : ts.length ≤ 30) (i0 : -1 ≤ i) (i1 : i < ts.length) :
    Calls Try.prog 34 #[.slice a ts.length cap, .int .i64 i] w (ListPost w (pathOf ts i)) := by
  obtain ⟨j0, hj, jz0, jz1, jz2⟩ := info_parts info_i64
  have HW : Hid (PWell ts) := hw
  clear hw
  have hln : (ts.length : Int) ≤ 30 := by omega
  obtain ⟨P, hP⟩ : ∃ P, pathOf ts i = P := ⟨_, rfl⟩
  have HP : Hid (pathOf ts i = P) := hP
  have HPL : Hid (P.length ≤ 30) := by rw [← hP]; exact Nat.le_trans (path_length i1) hl
  rw [hP]
  clear hP
  go_enter Try.func34, Try.ntmps34
  go_wp2
  go_loopw [1, 5] (fun s v wr => ∃ (c : Int) (out : List Int), s = .int .i64 c ∧ -1 ≤ c ∧ c < ts.length ∧ Hid (P = out ++ pathOf ts c) ∧ wr.ownsRow w.heap.size 2 1 v out.length (flatI out) ∧ Below w.heap.size w wr) (fun s _ _ => (intOf s + 1).toNat)
  case atStart => exact ⟨i, [], rfl, i0, i1, HP.out.symm, own_none1 w w.heap.size _ rfl (Nat.le_refl _) _, by go_grown⟩
  case round =>
    obtain ⟨c, out, rfl, hc0, hc1, HO, hown, hbw⟩ := hrel
    have zb := hbw.size
    by_cases hc : 0 ≤ c
    · obtain ⟨k, rfl⟩ : ∃ k : Nat, c = k := ⟨c.toNat, by omega⟩
      have hlt : k < ts.length := by omega
      have HL : Hid (out.length ≤ 30) := by
        have h1 := HPL.out
        rw [HO.out, List.length_append] at h1
        show out.length ≤ 30
        omega
      have hst := path_step HW.out hc hc1
      have hpar := parent_in HW.out hc hc1
      rw [parent_at hlt] at hst hpar
      obtain ⟨p, hp⟩ : ∃ p, ts[k].1 = p := ⟨_, rfl⟩
      have HX : Hid (ts[k].1 = p) := hp
      rw [hp] at hst hpar
      clear hp
      have HN : Hid (P = (out ++ [(k : Int)]) ++ pathOf ts p) := by
        have h1 := HO.out
        rw [hst] at h1
        show P = _
        rw [h1, List.append_assoc]
        rfl
      clear hst
      have hp0 := hpar.1
      have hp1 := hpar.2
      clear hpar
      obtain ⟨b, off, rfl, hb, _⟩ := h.at hbw k hlt
      go_wp2_with (first
        | (at_builtin; refine wpList_append_own _ rfl _ _ 24 rfl w.heap.size 2 j0 _ 1 8 Try.underlying24 hj jz0 jz1 jz2 rfl (by decide) _ _ _ rfl (hown.alloc _) ⟨wr.heap.size, 0, none⟩ 1 1 [.int .i64 (k : Int)] rfl rfl ?c1 ?c2 ?c3 ?c4 ?c5 ?c6; rotate_left 5; intro v' w' hown' hgr hnil; have hb2 := below_app hbw hgr (fun g hg => (hown.lt g hg).1); have cc := (h.cells hb2 k hlt).1; rw [HX.out] at cc))
      case c1 => exact one_news (by go_simp)
      case c2 => exact flatI_one [(k : Int)]
      case c3 => have := HL.out; unfold maxLen; omega
      case c4 => have := HL.out; omega
      case c5 => simp; omega
      go_roundw
      case rel => exact ⟨p, out ++ [(k : Int)], rfl, hp0, by omega, HN, by rw [flatI_append, List.length_append]; exact hown', hb2⟩
      case measure => simp [intOf]; omega
    · have hc' : decide (0 ≤ c) = false := decide_eq_false hc
      have HE : Hid (P = out) := by
        have h1 := HO.out
        rw [path_end (by omega), List.append_nil] at h1
        exact h1
      obtain ⟨av, cv, rfl⟩ := own_slice hown
      have hiv := own_ints hown
      go_wp2
      go_ret
      exact ⟨_, _, _, rfl, by rw [HE.out]; exact hiv, hbw⟩
set_option maxHeartbeats 1000000 in
theorem specPath_any {w : World} {a : Option Addr} (cap : Nat) {ts : List Q4} (i : Int) (h : Quad w.heap.size w a ts) :
    Calls Try.prog 10 #[.slice a ts.length cap, .int .i64 i] w (ListPost w (pathTo ts i)) := by
  cases hh : hasB ts i
  · have HP : Hid (pathTo ts i = []) := by unfold pathTo; rw [hh]; rfl
    rw [HP.out]
    go_enter Try.func10, Try.ntmps10
    go_wp2_with (first | (go_at_call 33; refine (specClass_is cap hh h).mono ?_; rintro e w2 ⟨rfl, hb2⟩; have zb := hb2.size))
    go_ret
    exact ⟨_, _, _, rfl, iv_new w2 _ _ hb2.size, by go_grown⟩
  · obtain ⟨ht, i0, i1⟩ := has_tree hh
    have hw := ht.sound.well
    have hl := ht.l1
    have HP : Hid (pathTo ts i = pathOf ts i) := by show (if hasB ts i = true then pathOf ts i else []) = _; rw [hh]; rfl
    rw [HP.out]
    have HW : Hid (PWell ts) := hw
    clear hw ht
    go_enter Try.func10, Try.ntmps10
    go_wp2_with (first
      | (go_at_call 33; refine (specClass_is cap hh h).mono ?_; rintro e w2 ⟨rfl, hb2⟩; have zb := hb2.size)
      | (go_at_call 34; refine (specL6Path_any cap i (h.here hb2) HW.out hl (by omega) i1).mono ?_; rintro e w3 ⟨a3, n3, c3, rfl, iv3, hb3⟩))
    go_ret
    exact ⟨_, _, _, rfl, iv3.lower zb, hb2.trans (hb3.mono zb)⟩
set_option maxHeartbeats 1000000 in
theorem specLeaves_any {w : World} {a : Option Addr} (cap : Nat) {ts : List Q4} (h : Quad w.heap.size w a ts) (hm : ts.length ≤ 1048576) :
    Calls Try.prog 18 #[.slice a ts.length cap] w (ListPost w (leavesOf ts)) := by
  obtain ⟨j0, hj, jz0, jz1, jz2⟩ := info_parts info_i64
  by_cases hc : treeCode ts = 0
  · have hl := (tree_of hc).l1
    have hln : (ts.length : Int) ≤ 30 := by omega
    have HP : Hid (leavesOf ts = leavesTo ts ts.length) := by show (if treeCode ts = 0 then _ else _) = _; rw [if_pos hc]
    rw [HP.out]
    go_enter Try.func18, Try.ntmps18
    go_wp2
    go_loopw [3, 4] (fun v i wr => ∃ k : Nat, i = .int .i64 k ∧ k ≤ ts.length ∧ wr.ownsRow w.heap.size 2 1 v (leavesTo ts k).length (flatI (leavesTo ts k)) ∧ Below w.heap.size w wr) (fun _ i _ => ts.length - (intOf i).toNat)
    case atStart => exact ⟨0, rfl, by omega, own_none1 w w.heap.size _ rfl (Nat.le_refl _) _, by go_grown⟩
    case round =>
      obtain ⟨k, rfl, hk, hown, hbw⟩ := hrel
      have zb := hbw.size
      by_cases hlt : k < ts.length
      · have hlt' : (k : Int) < (ts.length : Int) := by omega
        have HL : Hid ((leavesTo ts k).length ≤ 30) := Nat.le_trans (leaves_length ts k) (by omega)
        cases hf : leafB ts (k : Int)
        · have HN : Hid (leavesTo ts (k + 1) = leavesTo ts k) := leaves_no hf
          go_wp2_with (first
            | (go_at_call 39; refine (specTree_any cap ((h.mono hbw).up zb)).mono ?_; rintro e w2 ⟨rfl, hb2⟩; rw [hc]; have hbw2 := hbw.trans (hb2.mono zb); have hown2 := row_next hown hb2)
            | (go_at_call 40; refine (specLeaf_any cap (k : Int) ((h.mono hbw2).up hbw2.size) hm).mono ?_; rintro e w3 ⟨rfl, rfl⟩; rw [hf]))
          go_roundw
          case rel => exact ⟨k + 1, by go_num, by omega, by rw [HN.out]; exact hown2, hbw2⟩
          case measure => first | (simp [intOf]; done) | (simp [intOf]; omega)
        · have HN : Hid (leavesTo ts (k + 1) = leavesTo ts k ++ [(k : Int)]) := leaves_yes hf
          go_wp2_with (first
            | (go_at_call 39; refine (specTree_any cap ((h.mono hbw).up zb)).mono ?_; rintro e w2 ⟨rfl, hb2⟩; rw [hc]; have hbw2 := hbw.trans (hb2.mono zb); have hown2 := row_next hown hb2; have zb2 := hbw2.size)
            | (go_at_call 40; refine (specLeaf_any cap (k : Int) ((h.mono hbw2).up hbw2.size) hm).mono ?_; rintro e w3 ⟨rfl, rfl⟩; rw [hf])
            | (at_builtin; refine wpList_append_own _ rfl _ _ 24 rfl w.heap.size 2 j0 _ 1 8 Try.underlying24 hj jz0 jz1 jz2 rfl (by decide) _ _ _ rfl (hown2.alloc _) ⟨w3.heap.size, 0, none⟩ 1 1 [.int .i64 (k : Int)] rfl rfl ?c1 ?c2 ?c3 ?c4 ?c5 ?c6; rotate_left 5; intro v' w' hown' hgr hnil; have hb4 := below_app hbw2 hgr (fun g hg => (hown2.lt g hg).1)))
          case c1 => exact one_news (by go_simp)
          case c2 => exact flatI_one [(k : Int)]
          case c3 => have := HL.out; unfold maxLen; omega
          case c4 => have := HL.out; omega
          case c5 => simp; omega
          go_roundw
          case rel => exact ⟨k + 1, by go_num, by omega, by rw [HN.out, flatI_append, List.length_append]; exact hown', hb4⟩
          case measure => first | (simp [intOf]; done) | (simp [intOf]; omega)
      · have e : k = ts.length := by omega
        subst e
        obtain ⟨av, cv, rfl⟩ := own_slice hown
        have hiv := own_ints hown
        go_wp2
        go_ret
        exact ⟨_, _, _, rfl, hiv, hbw⟩
  · have HP : Hid (leavesOf ts = []) := by show (if treeCode ts = 0 then _ else _) = _; rw [if_neg hc]
    rw [HP.out]
    have hc' : (treeCode ts == 0) = false := by simp [hc]
    by_cases h0 : ts.length = 0
    · obtain rfl : ts = [] := List.eq_nil_of_length_eq_zero h0
      rw [List.length_nil]
      clear h0
      go_enter Try.func18, Try.ntmps18
      go_wp2
      refine wp_loop_rounds 1 ?_
      rw [rounds_succ]
      go_wp2
      go_ret
      exact ⟨_, _, _, rfl, iv_new w _ _ (Nat.le_refl _), by go_grown⟩
    · have h0' : (0 : Int) < (ts.length : Int) := by omega
      go_enter Try.func18, Try.ntmps18
      go_wp2
      refine wp_loop_rounds 1 ?_
      rw [rounds_succ]
      have hn := iv_new w w.heap.size 2 (Nat.le_refl _)
      have hbn : Below w.heap.size w (w.alloc (.cells #[] 2)) := by go_grown
      go_wp2_with (first
        | (go_at_call 39; refine (specTree_any cap (h.here hbn)).mono ?_; rintro e w2 ⟨rfl, hb2⟩))
      go_ret
      exact ⟨_, _, _, rfl, hn.next hb2, hbn.trans (hb2.mono hbn.size)⟩
set_option maxHeartbeats 1000000 in
theorem specSpare_any {w : World} {a : Option Addr} (cap : Nat) {ts : List Q4} (i : Int) (h : Quad w.heap.size w a ts) :
    Calls Try.prog 22 #[.slice a ts.length cap, .int .i64 i] w fun e w' => e = .returned (.int .i64 (spareOf ts i)) ∧ Below w.heap.size w w' := by
  cases hh : hasB ts i
  · have HP : Hid (spareOf ts i = -1) := by unfold spareOf; rw [hh]; rfl
    rw [HP.out]
    go_enter Try.func22, Try.ntmps22
    go_wp2_with (first | (go_at_call 33; refine (specClass_is cap hh h).mono ?_; rintro e w2 ⟨rfl, hb2⟩; have zb := hb2.size))
    go_ret
    exact ⟨rfl, hb2⟩
  · obtain ⟨ht, i0, i1⟩ := has_tree hh
    have HS : Hid (Sound ts) := ht.sound
    have hl := ht.l1
    have hln : (ts.length : Int) ≤ 30 := by omega
    obtain ⟨m, rfl⟩ : ∃ m : Nat, i = m := ⟨i.toNat, by omega⟩
    have hm : m < ts.length := by omega
    have hR := ht.sound.rate m hm
    clear ht
    obtain ⟨R, hr⟩ : ∃ R, ts[m].2.1 = R := ⟨_, rfl⟩
    have HR : Hid (ts[m].2.1 = R) := hr
    rw [hr] at hR
    clear hr
    have hR0 := hR.1
    have hR1 := hR.2
    clear hR
    have HP : Hid (spareOf ts (m : Int) = R - kidTo ts (m : Int) ts.length) := by
      show (if hasB ts (m : Int) = true then _ else _) = _
      rw [if_pos hh, Int.toNat_natCast, rateOf_at hm, HR.out]
    rw [HP.out]
    obtain ⟨b, off, rfl, hb, _⟩ := h.at (Below.refl _ _) m hm
    go_enter Try.func22, Try.ntmps22
    go_wp2_with (first | (go_at_call 33; refine (specClass_is cap hh h).mono ?_; rintro e w2 ⟨rfl, hb2⟩; have zb := hb2.size; have cR := (h.cells hb2 m hm).2.1; rw [HR.out] at cR))
    go_loop [5, 6] (fun s j => ∃ (k : Nat) (v : Int), j = .int .i64 k ∧ k ≤ ts.length ∧ s = .int .i64 v ∧ Hid (v = R - kidTo ts (m : Int) k)) (fun _ j => ts.length - (intOf j).toNat)
    case atStart => exact ⟨0, R, rfl, by omega, rfl, (Int.sub_zero R).symm⟩
    case round =>
      obtain ⟨k, v, rfl, hk, rfl, HV⟩ := hrel
      have hv := HS.out.kids (m : Int) k
      have hv0 : -30000000000000 ≤ v := by rw [HV.out]; omega
      have hv1 : v ≤ 1000000000000 := by rw [HV.out]; omega
      clear hv
      by_cases hlt : k < ts.length
      · obtain ⟨e0, e1, e2, e3⟩ := h.cells hb2 k hlt
        have hlt' : (k : Int) < (ts.length : Int) := by omega
        have hr := HS.out.rate k hlt
        obtain ⟨x, hx⟩ : ∃ x, ts[k] = x := ⟨_, rfl⟩
        rw [hx] at e0 e1 e2 e3 hr
        obtain ⟨p, r, c, u⟩ := x
        have HX : Hid (ts[k] = (p, r, c, u)) := hx
        clear hx
        simp only at e0 e1 e2 e3 hr
        have hr0 := hr.1
        have hr1 := hr.2
        clear hr
        by_cases hp : p = (m : Int)
        · have HN : Hid (v - r = R - kidTo ts (m : Int) (k + 1)) := by
            show v - r = R - (kidTo ts (m : Int) k + kidAt ts (m : Int) k)
            rw [kidAt_yes hlt (by rw [HX.out]; exact hp), HX.out, HV.out]
            simp only
            omega
          subst hp
          go_wp2
          go_round
          case rel => exact ⟨k + 1, v - r, by go_num, by omega, rfl, HN⟩
          case measure => first | (simp [intOf]; done) | (simp [intOf]; omega)
        · have HN : Hid (v = R - kidTo ts (m : Int) (k + 1)) := by
            show v = R - (kidTo ts (m : Int) k + kidAt ts (m : Int) k)
            rw [kidAt_no hlt (by rw [HX.out]; exact hp), Int.add_zero]
            exact HV.out
          have hp' : (p == (m : Int)) = false := by simp [hp]
          go_wp2
          go_round
          case rel => exact ⟨k + 1, v, by go_num, by omega, rfl, HN⟩
          case measure => first | (simp [intOf]; done) | (simp [intOf]; omega)
      · have e : k = ts.length := by omega
        subst e
        go_wp2
        go_ret
        exact ⟨ret_i HV.out, hb2⟩
end Go.Proofs.Ytcepopboldnical
