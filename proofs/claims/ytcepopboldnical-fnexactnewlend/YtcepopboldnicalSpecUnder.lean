/- What spec.Under answers. -/
import Derived.Test.YtcepopboldnicalSpecTree2
import Derived.Test.YtcepopboldnicalIntsLaw
namespace Go.Proofs.Ytcepopboldnical
open Go.ChangeShapes Go.WideShapes Go.ChangeAt Go.RowKit
set_option maxRecDepth 100000
set_option linter.unusedVariables false
set_option linter.unusedSimpArgs false

theorem path_mem {ts : List Q4} (hw : PWell ts) : ∀ (n : Nat) (i : Int), i < ts.length → i + 1 ≤ n → ∀ x ∈ pathOf ts i, 0 ≤ x ∧ x ≤ i
  | n, i, h1, h2, x, hx => by
    by_cases h0 : 0 ≤ i
    · cases n with
      | zero => omega
      | succ n =>
        have hp := parent_in hw h0 h1
        rw [path_step hw h0 h1] at hx
        rcases List.mem_cons.1 hx with rfl | hx
        · omega
        · have := path_mem hw n (parentOf ts i) (by omega) (by omega) x hx
          omega
    · rw [path_end (by omega)] at hx
      cases hx
theorem path_nodup {ts : List Q4} (hw : PWell ts) : ∀ (n : Nat) (i : Int), i < ts.length → i + 1 ≤ n → (pathOf ts i).Nodup
  | n, i, h1, h2 => by
    by_cases h0 : 0 ≤ i
    · cases n with
      | zero => omega
      | succ n =>
        have hp := parent_in hw h0 h1
        rw [path_step hw h0 h1]
        refine List.nodup_cons.2 ⟨fun hx => ?_, path_nodup hw n (parentOf ts i) (by omega) (by omega)⟩
        have := path_mem hw n (parentOf ts i) (by omega) (by omega) i hx
        omega
    · rw [path_end (by omega)]
      exact List.nodup_nil
/-- k, once i has come among the first j. -/
def hitTo (P : List Int) (i k : Int) (j : Nat) : List Int := if (P.take j).contains i = true then [k] else []
theorem hit_no {P : List Int} {i k : Int} {j : Nat} (hj : j < P.length) (h : P[j] ≠ i) : hitTo P i k (j + 1) = hitTo P i k j := by
  have h' : ¬ i = P[j] := fun e => h e.symm
  have e' : i ∈ P.take (j + 1) ↔ i ∈ P.take j := by
    rw [List.take_succ_eq_append_getElem hj, List.mem_append, List.mem_singleton]
    exact ⟨fun k => k.elim id (fun e => absurd e h'), Or.inl⟩
  have e : (P.take (j + 1)).contains i = (P.take j).contains i := by
    rw [List.contains_eq_mem, List.contains_eq_mem]
    exact decide_eq_decide.2 e'
  unfold hitTo
  rw [e]
theorem hit_not {P : List Int} {i : Int} {j : Nat} (hn : P.Nodup) (hj : j < P.length) (h : P[j] = i) : (P.take j).contains i = false := by
  have e : P = P.take j ++ P[j] :: P.drop (j + 1) := by
    rw [← List.drop_eq_getElem_cons hj, List.take_append_drop]
  rw [e, List.nodup_append] at hn
  by_cases k : (P.take j).contains i = true
  · have k' : i ∈ P.take j := by simpa using k
    exact absurd h.symm (hn.2.2 i k' P[j] (List.mem_cons_self ..))
  · simpa using k
theorem hit_yes {P : List Int} {i k : Int} {j : Nat} (hn : P.Nodup) (hj : j < P.length) (h : P[j] = i) : hitTo P i k j = [] ∧ hitTo P i k (j + 1) = [k] := by
  have e0 := hit_not hn hj h
  have e1 : (P.take (j + 1)).contains i = true := by
    rw [List.take_succ_eq_append_getElem hj, h]
    simp
  unfold hitTo
  rw [e0, e1]
  exact ⟨rfl, rfl⟩
theorem hit_end {ts : List Q4} {i : Int} {k : Nat} : underTo ts i (k + 1) = underTo ts i k ++ hitTo (pathOf ts (k : Int)) i (k : Int) (pathOf ts (k : Int)).length := by
  unfold hitTo
  rw [List.take_length]
  cases h : (pathOf ts (k : Int)).contains i
  · rw [under_no h]; simp
  · rw [under_yes h]; simp
theorem hit_start {P : List Int} {i k : Int} : hitTo P i k 0 = [] := by simp [hitTo]
theorem hit_length (P : List Int) (i k : Int) (j : Nat) : (hitTo P i k j).length ≤ 1 := by
  unfold hitTo
  split <;> simp
set_option maxHeartbeats 2000000 in
theorem specUnder_any {w : World} {a : Option Addr} (cap : Nat) {ts : List Q4} (i : Int) (h : Quad w.heap.size w a ts) :
    Calls Try.prog 20 #[.slice a ts.length cap, .int .i64 i] w (ListPost w (underOf ts i)) := by
  obtain ⟨j0, hj, jz0, jz1, jz2⟩ := info_parts info_i64
  cases hh : hasB ts i
  · have HP : Hid (underOf ts i = []) := by unfold underOf; rw [hh]; rfl
    rw [HP.out]
    by_cases h0 : ts.length = 0
    · obtain rfl : ts = [] := List.eq_nil_of_length_eq_zero h0
      rw [List.length_nil]
      clear h0
      go_enter Try.func20, Try.ntmps20
      go_wp2
      refine wp_loop_rounds 1 ?_
      rw [rounds_succ]
      go_wp2
      go_ret
      exact ⟨_, _, _, rfl, iv_new w _ _ (Nat.le_refl _), by go_grown⟩
    · have h0' : (0 : Int) < (ts.length : Int) := by omega
      go_enter Try.func20, Try.ntmps20
      go_wp2
      refine wp_loop_rounds 1 ?_
      rw [rounds_succ]
      have hn := iv_new w w.heap.size 2 (Nat.le_refl _)
      have hbn : Below w.heap.size w (w.alloc (.cells #[] 2)) := by go_grown
      go_wp2_with (first
        | (go_at_call 33; refine (specClass_is cap hh (h.here hbn)).mono ?_; rintro e w2 ⟨rfl, hb2⟩))
      go_ret
      exact ⟨_, _, _, rfl, hn.next hb2, hbn.trans (hb2.mono hbn.size)⟩
  · obtain ⟨ht, i0, i1⟩ := has_tree hh
    have HW : Hid (PWell ts) := ht.sound.well
    have hl := ht.l1
    have hln : (ts.length : Int) ≤ 30 := by omega
    clear ht
    have HP : Hid (underOf ts i = underTo ts i ts.length) := by show (if hasB ts i = true then _ else _) = _; rw [if_pos hh]
    rw [HP.out]
    go_enter Try.func20, Try.ntmps20
    go_wp2
    go_loopw [5, 6] (fun v s wr => ∃ k : Nat, s = .int .i64 k ∧ k ≤ ts.length ∧ wr.ownsRow w.heap.size 2 1 v (underTo ts i k).length (flatI (underTo ts i k)) ∧ Below w.heap.size w wr) (fun _ s _ => ts.length - (intOf s).toNat)
    case atStart => exact ⟨0, rfl, by omega, own_none1 w w.heap.size _ rfl (Nat.le_refl _) _, by go_grown⟩
    case round =>
      obtain ⟨k, rfl, hk, hown, hbw⟩ := hrel
      have zb := hbw.size
      by_cases hlt : k < ts.length
      · have hlt' : (k : Int) < (ts.length : Int) := by omega
        have HL : Hid ((underTo ts i k).length ≤ 30) := Nat.le_trans (under_length ts i k) (by omega)
        have HE := hit_end (ts := ts) (i := i) (k := k)
        have HND := path_nodup HW.out (k + 1) (k : Int) (by omega) (by omega)
        have HPL := path_length (ts := ts) (i := (k : Int)) (by omega)
        obtain ⟨P, hP⟩ : ∃ P, pathOf ts (k : Int) = P := ⟨_, rfl⟩
        rw [hP] at HE HND HPL
        have HE : Hid (underTo ts i (k + 1) = underTo ts i k ++ hitTo P i (k : Int) P.length) := HE
        have HND : Hid P.Nodup := HND
        have HPP : Hid (pathOf ts (k : Int) = P) := hP
        clear hP
        obtain ⟨U, hU⟩ : ∃ U, underTo ts i k = U := ⟨_, rfl⟩
        have HU : Hid (underTo ts i k = U) := hU
        rw [hU] at hown
        clear hU
        obtain ⟨av, cv, rfl⟩ := own_slice hown
        have HPL : Hid (P.length ≤ 30) := Nat.le_trans HPL hl
        have hpl : (P.length : Int) ≤ 30 := by have := HPL.out; omega
        go_wp2_with (first
          | (go_at_call 33; refine (specClass_is cap hh ((h.mono hbw).up zb)).mono ?_; rintro e w2 ⟨rfl, hb2⟩; have hbw2 := hbw.trans (hb2.mono zb); have hown2 := row_next hown hb2; have zb2 := hbw2.size)
          | (go_at_call 34; refine (specL6Path_any cap (k : Int) ((h.mono hbw2).up zb2) HW.out hl (by omega) (by omega)).mono ?_; rintro e w3 ⟨a3, n3, c3, rfl, iv3, hb3⟩; rw [HPP.out] at iv3; have hbw3 := hbw2.trans (hb3.mono zb2); have hown3 := row_next hown2 hb3; have zb3 := hbw3.size))
        have AP : Hid (∀ g, (Value.slice av U.length cv).ownBlock = some g → (Value.slice a3 n3 c3).ownBlock ≠ some g) := by
          intro g hg e
          have e1 := (hown2.lt g hg).2
          have e2 := (iv3.own e).1
          omega
        obtain ⟨ap, cp, ev, _⟩ := iv3.smp
        injection ev with ev1 ev2 ev3
        subst ev2
        clear ev1 ev3
        go_loopw [5, 8] (fun u s wx => ∃ j : Nat, s = .int .i64 j ∧ j ≤ P.length ∧ wx.ownsRow w.heap.size 2 1 u (U ++ hitTo P i (k : Int) j).length (flatI (U ++ hitTo P i (k : Int) j)) ∧ IV wx w2.heap.size (.slice a3 P.length c3) P ∧ Hid ((P.take j).contains i = false → ∀ g, u.ownBlock = some g → (Value.slice a3 P.length c3).ownBlock ≠ some g) ∧ Below w.heap.size w wx) (fun _ s _ => P.length - (intOf s).toNat)
        case atStart => exact ⟨0, rfl, by omega, by rw [hit_start, List.append_nil]; exact hown3, iv3, fun _ => AP.out, hbw3⟩
        case round =>
          clear iv3 AP hown3 hown2 hown
          obtain ⟨j, rfl, hjl, hown, iv, AP, hbx⟩ := hrel
          have zx := hbx.size
          obtain ⟨au, cu, rfl⟩ := own_slice hown
          by_cases hlj : j < P.length
          · have hlj' : (j : Int) < (P.length : Int) := by omega
            obtain ⟨ap, cp, ev, hs⟩ := iv.smp
            injection ev with ev1 ev2 ev3
            subst ev1
            clear ev2 ev3
            obtain ⟨b, off, rfl, hb, c0⟩ := hs j hlj
            obtain ⟨x, hx⟩ : ∃ x, P[j] = x := ⟨_, rfl⟩
            have HX : Hid (P[j] = x) := hx
            rw [hx] at c0
            clear hx
            by_cases hxi : x = i
            · subst hxi
              have hy := hit_yes (k := (k : Int)) HND.out hlj HX.out
              have ap := AP.out (hit_not HND.out hlj HX.out)
              rw [hy.1, List.append_nil] at hown ap ⊢
              have HY : Hid (hitTo P x (k : Int) (j + 1) = [(k : Int)]) := hy.2
              have HZ : Hid ((P.take (j + 1)).contains x = true) := by
                show (P.take (j + 1)).contains x = true
                rw [List.take_succ_eq_append_getElem hlj, HX.out]
                simp
              have HUL : Hid (U.length ≤ 30) := by rw [← HU.out]; exact HL.out
              clear hy
              go_wp2_with (first
                | (at_builtin; refine wpList_append_own _ rfl _ _ 24 rfl w.heap.size 2 j0 _ 1 8 Try.underlying24 hj jz0 jz1 jz2 rfl (by decide) _ _ _ rfl (hown.alloc _) ⟨wr.heap.size, 0, none⟩ 1 1 [.int .i64 (k : Int)] rfl rfl ?c1 ?c2 ?c3 ?c4 ?c5 ?c6; rotate_left 5; intro v' w' hown' hgr hnil; have hb4 := below_app hbx hgr (fun g hg => (hown.lt g hg).1)))
              case c1 => exact one_news (by go_simp)
              case c2 => exact flatI_one [(k : Int)]
              case c3 => have := HUL.out; unfold maxLen; omega
              case c4 => have := HUL.out; omega
              case c5 => simp; omega
              have iv4 := (iv.next (w' := wr.alloc (.cells #[.int .i64 (k : Int)] 2)) (by go_grown)).onlyO (OnlyO.of_grown hgr) (fun g hg e => ap g e hg)
              go_roundw
              case rel => exact ⟨j + 1, by go_num, by omega, by rw [HY.out, flatI_append, List.length_append]; exact hown', iv4, (fun e => absurd (HZ.out.symm.trans e) (by decide)), hb4⟩
              case measure => first | (simp [intOf]; done) | (simp [intOf]; omega)
            · have HY : Hid (hitTo P i (k : Int) (j + 1) = hitTo P i (k : Int) j) := hit_no hlj (by rw [HX.out]; exact hxi)
              have AP2 : Hid ((P.take (j + 1)).contains i = false → ∀ g, (Value.slice au (U ++ hitTo P i (k : Int) j).length cu).ownBlock = some g → (Value.slice (some ⟨b, off, none⟩) P.length c3).ownBlock ≠ some g) := by
                intro e
                refine AP.out ?_
                rw [List.take_succ_eq_append_getElem hlj] at e
                have e' : ¬ (i ∈ P.take j ++ [P[j]]) := by simpa using e
                have : ¬ (i ∈ P.take j) := fun k => e' (List.mem_append_left _ k)
                simpa using this
              have hxi' : (x == i) = false := by simp [hxi]
              go_wp2
              go_roundw
              case rel => exact ⟨j + 1, by go_num, by omega, by rw [HY.out]; exact hown, iv, AP2, hbx⟩
              case measure => first | (simp [intOf]; done) | (simp [intOf]; omega)
          · have e : j = P.length := by omega
            subst e
            go_wp2
            go_roundw
            case rel => exact ⟨k + 1, by go_num, by omega, by rw [HE.out, HU.out]; exact hown, hbx⟩
            case measure => first | (simp [intOf]; done) | (simp [intOf]; omega)
      · have e : k = ts.length := by omega
        subst e
        obtain ⟨av, cv, rfl⟩ := own_slice hown
        have hiv := own_ints hown
        go_wp2
        go_ret
        exact ⟨_, _, _, rfl, hiv, hbw⟩
end Go.Proofs.Ytcepopboldnical
