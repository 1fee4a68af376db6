/- What impl.Advance answers. -/
import Derived.Test.YtdgefdjgpneanacImplOk
import Derived.Test.YtdgefdjgpneanacImplDel
import Derived.Test.YtdgefdjgpneanacSpecAdvance
import Derived.Test.YtdgefdjgpneanacAdvMath
namespace Go.Proofs.Ytdgefdjgpneanac
open Go.ChangeShapes Go.WideShapes Go.ChangeAt Go.RowKit
set_option linter.unusedVariables false
set_option linter.unusedSimpArgs false
set_option maxRecDepth 100000

theorem adv_none {w w' : World} (hb : Below w.heap.size w w') : AdvPost w 0 [] [] (.returned (.tuple #[.agg #[.int .i64 0, .slice none 0 0], .slice none 0 0])) w' := ⟨_, _, _, _, _, _, rfl, FW.zero _ _ _, .inr ⟨rfl, rfl⟩, fun g hg => (by cases hg), hb⟩
set_option maxHeartbeats 2000000 in
theorem iadv_bad {w : World} {now : Int} {a : Option Addr} (cap : Nat) {xs : List (Int × Int)} (t : Int) (h : Smp w.heap.size w a xs) (hc : xs.length ≤ cap) (hn : a = none → cap = 0) (hl : (xs.length : Int) ≤ 9223372036854775807) (hW : ¬ WOk now xs) :
    Calls Try.prog 23 #[.agg #[.int .i64 now, .slice a xs.length cap], .int .i64 t] w (AdvPost w 0 [] []) := by
  go_enter Try.func23, Try.ntmps23
  go_wp2_with (first
    | (go_at_call 24; refine (implWheelOk_no cap (h.here (by go_grown)) hc hn hl hW).mono ?_; rintro e w2 ⟨rfl, hb2⟩; have kc := below_cells hb2; have kf := below_frozens hb2; have hbw := startw hb2; have y1 := sizew hb2; have zb := hb2.size))
  have d0 : w2.cell? ⟨w.heap.size + 1, 0, none⟩ = some (.int .i64 0) := (kc _ _ (by simp)).trans (by go_simp)
  have d1 : w2.cell? ⟨w.heap.size + 1, 1, none⟩ = some (.slice none 0 0) := (kc _ _ (by simp)).trans (by go_simp)
  clear kc kf
  refine bodyPost_ret (results_two rfl _ _ _ [.int .i64 0, .slice none 0 0] rfl (set_two (u0 := .int .i64 0) (u1 := .slice none 0 0) _ _ (by go_simp) (by go_simp)) Try.underlying36 rfl (by kernel_rfl)) rfl ?_
  exact adv_none (by go_grown)
set_option maxHeartbeats 2000000 in
theorem iadv_time {w : World} {now : Int} {a : Option Addr} (cap : Nat) {xs : List (Int × Int)} (t : Int) (h : Smp w.heap.size w a xs) (hc : xs.length ≤ cap) (hn : a = none → cap = 0) (hW : WOk now xs) (hT : timeB t = false) :
    Calls Try.prog 23 #[.agg #[.int .i64 now, .slice a xs.length cap], .int .i64 t] w (AdvPost w 0 [] []) := by
  have HW : Hid (WOk now xs) := hW
  clear hW
  go_enter Try.func23, Try.ntmps23
  go_wp2_with (first
    | (go_at_call 24; refine (implWheelOk_yes cap (h.here (by go_grown)) hc hn HW.out).mono ?_; rintro e w2 ⟨rfl, hb2⟩; have kc := below_cells hb2; have kf := below_frozens hb2; have hbw := startw hb2; have y1 := sizew hb2; have zb := hb2.size)
    | (go_at_call 54; refine (itime_any _ _).mono ?_; rintro e w2 ⟨rfl, rfl⟩; rw [hT]))
  have d0 : w2.cell? ⟨w.heap.size + 1, 0, none⟩ = some (.int .i64 0) := (kc _ _ (by simp)).trans (by go_simp)
  have d1 : w2.cell? ⟨w.heap.size + 1, 1, none⟩ = some (.slice none 0 0) := (kc _ _ (by simp)).trans (by go_simp)
  clear kc kf
  refine bodyPost_ret (results_two rfl _ _ _ [.int .i64 0, .slice none 0 0] rfl (set_two (u0 := .int .i64 0) (u1 := .slice none 0 0) _ _ (by go_simp) (by go_simp)) Try.underlying36 rfl (by kernel_rfl)) rfl ?_
  exact adv_none (by go_grown)
set_option maxHeartbeats 2000000 in
theorem iadv_late {w : World} {now : Int} {a : Option Addr} (cap : Nat) {xs : List (Int × Int)} (t : Int) (h : Smp w.heap.size w a xs) (hc : xs.length ≤ cap) (hn : a = none → cap = 0) (hW : WOk now xs) (hT : timeB t = true) (hE : t < now) :
    Calls Try.prog 23 #[.agg #[.int .i64 now, .slice a xs.length cap], .int .i64 t] w (AdvPost w 0 [] []) := by
  have HW : Hid (WOk now xs) := hW
  clear hW
  go_enter Try.func23, Try.ntmps23
  go_wp2_with (first
    | (go_at_call 24; refine (implWheelOk_yes cap (h.here (by go_grown)) hc hn HW.out).mono ?_; rintro e w2 ⟨rfl, hb2⟩; have kc := below_cells hb2; have kf := below_frozens hb2; have hbw := startw hb2; have y1 := sizew hb2; have zb := hb2.size)
    | (go_at_call 54; refine (itime_any _ _).mono ?_; rintro e w2 ⟨rfl, rfl⟩; rw [hT]))
  have d0 : w2.cell? ⟨w.heap.size + 1, 0, none⟩ = some (.int .i64 0) := (kc _ _ (by simp)).trans (by go_simp)
  have d1 : w2.cell? ⟨w.heap.size + 1, 1, none⟩ = some (.slice none 0 0) := (kc _ _ (by simp)).trans (by go_simp)
  clear kc kf
  refine bodyPost_ret (results_two rfl _ _ _ [.int .i64 0, .slice none 0 0] rfl (set_two (u0 := .int .i64 0) (u1 := .slice none 0 0) _ _ (by go_simp) (by go_simp)) Try.underlying36 rfl (by kernel_rfl)) rfl ?_
  exact adv_none (by go_grown)
theorem implAdvance_no {w : World} {now : Int} {a : Option Addr} (cap : Nat) {xs : List (Int × Int)} (t : Int) (h : Smp w.heap.size w a xs) (hc : xs.length ≤ cap) (hn : a = none → cap = 0) (hl : (xs.length : Int) ≤ 9223372036854775807) (hW : ¬ (WOk now xs ∧ timeB t = true ∧ now ≤ t)) :
    Calls Try.prog 23 #[.agg #[.int .i64 now, .slice a xs.length cap], .int .i64 t] w (AdvPost w 0 [] []) := by
  by_cases h1 : WOk now xs
  · cases hT : timeB t
    · exact iadv_time cap t h hc hn h1 hT
    · exact iadv_late cap t h hc hn h1 hT (by
        rcases Int.lt_or_le t now with h | h
        · exact h
        · exact absurd ⟨h1, hT, h⟩ hW)
  · exact iadv_bad cap t h hc hn hl h1
def idsTo (xs : List (Int × Int)) (k : Nat) : List Int := (xs.take k).map Prod.fst
theorem ids_length {xs : List (Int × Int)} {k : Nat} (hk : k ≤ xs.length) : (idsTo xs k).length = k := by
  unfold idsTo
  rw [List.length_map, List.length_take]
  omega
theorem ids_next {xs : List (Int × Int)} {k : Nat} (hk : k < xs.length) : idsTo xs (k + 1) = idsTo xs k ++ [xs[k].1] := by
  unfold idsTo
  rw [List.take_succ_eq_append_getElem hk, List.map_append]
  rfl
/-- Where the first k are due and no later one is: they are what fires, the others stay. -/
theorem adv_split {now t : Int} {xs : List (Int × Int)} {k : Nat} (hW : WOk now xs) (hk : k ≤ xs.length) (h1 : ∀ m (h : m < xs.length), m < k → xs[m].2 ≤ t) (h2 : ∀ h : k < xs.length, ¬ xs[k].2 ≤ t) : dueOf t xs = idsTo xs k ∧ restOf t xs = xs.drop k := by
  have hall := hW.all.2.2.2.1
  rw [List.pairwise_iff_getElem] at hall
  have e : xs = xs.take k ++ xs.drop k := (List.take_append_drop k xs).symm
  have t1 : ∀ x ∈ xs.take k, x.2 ≤ t := by
    intro x hx
    obtain ⟨m, hm, rfl⟩ := List.mem_iff_getElem.1 hx
    rw [List.length_take] at hm
    rw [List.getElem_take]
    exact h1 m (by omega) (by omega)
  have t2 : ∀ x ∈ xs.drop k, ¬ x.2 ≤ t := by
    intro x hx
    obtain ⟨m, hm, rfl⟩ := List.mem_iff_getElem.1 hx
    rw [List.length_drop] at hm
    rw [List.getElem_drop]
    have hkx : k < xs.length := by omega
    have b := h2 hkx
    by_cases e : m = 0
    · subst e
      exact b
    · have := hall k (k + m) hkx (by omega) (by omega)
      rw [bef_num] at this
      omega
  constructor
  · unfold dueOf idsTo
    conv => lhs; rw [e]
    rw [List.filter_append, List.filter_eq_self.2 (fun x hx => decide_eq_true (t1 x hx)), List.filter_eq_nil_iff.2 (fun x hx => by simpa using t2 x hx), List.append_nil]
  · unfold restOf
    conv => lhs; rw [e]
    rw [List.filter_append, List.filter_eq_nil_iff.2 (fun x hx => by simpa using t1 x hx), List.nil_append, List.filter_eq_self.2 (fun x hx => by simpa using t2 x hx)]
theorem clone_end {w : World} (a : Option Addr) {xs : List (Int × Int)} {k : Nat} (c : Nat) (h : Hid (xs.length ≤ k)) :
    Calls Try.prog 77 #[.slice a (xs.length - k) c] w (RowPost w (xs.drop k)) := by
  have h' := h.out
  have e : xs.drop k = [] := List.drop_eq_nil_of_le h'
  rw [e, show xs.length - k = ([] : List (Int × Int)).length by simp; omega]
  exact cloneT_any c (fw_nil w a) (by simp)
theorem fw_drop {w : World} {lo c k : Nat} {a : Option Addr} {xs : List (Int × Int)} (h : FW w lo (.slice a (xs.drop k).length c) (xs.drop k)) : FW w lo (.slice a (xs.length - k) c) (xs.drop k) := by
  rw [← List.length_drop]
  exact h
theorem clone_drop {w : World} {b off n : Nat} {xs : List (Int × Int)} (h : Smp w.heap.size w (some ⟨b, off, none⟩) xs) (hl : xs.length ≤ 201) (hn : xs.length = n) (k c : Nat) :
    Calls Try.prog 77 #[.slice (some ⟨b, off + k * 2, none⟩) (n - k) c] w (RowPost w (xs.drop k)) := by
  rw [← hn, ← List.length_drop]
  refine cloneT_any c ?_ (by rw [List.length_drop]; omega)
  intro i hi
  rw [List.length_drop] at hi
  obtain ⟨b', off', e, hb, c0, c1⟩ := h (k + i) (by omega)
  cases e
  refine ⟨b, off + k * 2, rfl, hb, ?_, ?_⟩
  · rw [List.getElem_drop, show off + k * 2 + i * 2 = off + (k + i) * 2 by omega]; exact c0
  · rw [List.getElem_drop, show off + k * 2 + i * 2 + 1 = off + (k + i) * 2 + 1 by omega]; exact c1
set_option maxHeartbeats 4000000 in
theorem iadv_some {w : World} {now : Int} {b off : Nat} (cap : Nat) {xs : List (Int × Int)} (t : Int) (h : Smp w.heap.size w (some ⟨b, off, none⟩) xs) (hb : b < w.heap.size) (hc : xs.length ≤ cap) (hW : WOk now xs) (hT : timeB t = true) (hE : now ≤ t) :
    Calls Try.prog 23 #[.agg #[.int .i64 now, .slice (some ⟨b, off, none⟩) xs.length cap], .int .i64 t] w (AdvPost w t (restOf t xs) (dueOf t xs)) := by
  have hn : (some ⟨b, off, none⟩ : Option Addr) = none → cap = 0 := fun e => by cases e
  have hl := hW.2.1
  have HW : Hid (WOk now xs) := hW
  clear hW
  have hl' : (xs.length : Int) ≤ 200 := by omega
  have hc' : (xs.length : Int) ≤ cap := by omega
  have hE' : decide (t < now) = false := decide_eq_false (by omega)
  obtain ⟨j0, hj, jz0, jz1, jz2⟩ := info_parts info_i64
  go_enter Try.func23, Try.ntmps23
  go_wp2_with (first
    | (go_at_call 24; refine (implWheelOk_yes cap (h.here (by go_grown)) hc hn HW.out).mono ?_; rintro e w2 ⟨rfl, hb2⟩; have kc := below_cells hb2; have kf := below_frozens hb2; have hbw := startw hb2; have y1 := sizew hb2; have zb := hb2.size)
    | (go_at_call 54; refine (itime_any _ _).mono ?_; rintro e w2 ⟨rfl, rfl⟩; rw [hT]))
  have C : Hid (Kept w [(w.heap.size, 0, .int .i64 now), (w.heap.size, 1, .slice (some ⟨b, off, none⟩) xs.length cap), (w.heap.size + 1, 0, .int .i64 0), (w.heap.size + 1, 1, .slice none 0 0)] [w.heap.size + 1] w2) := ⟨⟨⟨by omega, (kc _ _ (by simp; omega)).trans (by go_simp)⟩, ⟨by omega, (kc _ _ (by simp; omega)).trans (by go_simp)⟩, ⟨by omega, (kc _ _ (by simp)).trans (by go_simp)⟩, ⟨by omega, (kc _ _ (by simp)).trans (by go_simp)⟩, trivial⟩, (fun b' hb' => (by rw [List.mem_singleton] at hb'; subst hb'; exact ⟨by omega, fun o => (kf _ _ (by simp)).trans (by go_simp)⟩)), hbw⟩
  clear kc kf zb hb2
  go_loopw [6, 8, 27] (fun s6 s8 i wr => ∃ k : Nat, i = .int .i64 k ∧ k ≤ xs.length ∧ Hid (∀ m (h : m < xs.length), m < k → xs[m].2 ≤ t) ∧ wr.ownsRow w2.heap.size 2 1 s6 (idsTo xs k).length (flatI (idsTo xs k)) ∧ w2.heap.size ≤ wr.heap.size ∧ Kept w [(w.heap.size, 0, .int .i64 now), (w.heap.size, 1, .slice (some ⟨b, off, none⟩) xs.length cap), (w.heap.size + 1, 0, .int .i64 0), (w.heap.size + 1, 1, .slice none 0 0)] [w.heap.size + 1] wr) (fun _ _ i _ => xs.length - (intOf i).toNat)
  case atStart => exact ⟨0, rfl, by omega, (fun m h k => by omega), World.ownsRow_nil _ _ _ _, Nat.le_refl _, C.out⟩
  case round =>
    clear C
    obtain ⟨k, rfl, hk, HA, hown, hzw, K1⟩ := hrel
    obtain ⟨⟨⟨z0, k0⟩, ⟨_, k1⟩, ⟨z1, k2⟩, ⟨_, k3⟩, _⟩, hfree, hwr⟩ := id K1
    have kf := (hfree _ (List.mem_singleton.2 rfl)).2
    have KK : Hid (Kept w [(w.heap.size, 0, .int .i64 now), (w.heap.size, 1, .slice (some ⟨b, off, none⟩) xs.length cap), (w.heap.size + 1, 0, .int .i64 0), (w.heap.size + 1, 1, .slice none 0 0)] [w.heap.size + 1] wr) := K1
    clear K1 hfree
    have HID : Hid ((idsTo xs k).length = k) := ids_length hk
    rw [HID.out] at hown
    obtain ⟨fa, fc, rfl⟩ := own_slice hown
    have y3 : wr.heap.size ≠ w.heap.size := by omega
    have y4 : w.heap.size ≠ wr.heap.size := by omega
    have y5 : wr.heap.size ≠ w.heap.size + 1 := by omega
    have y6 : w.heap.size + 1 ≠ wr.heap.size := by omega
    have hkc : (k : Int) ≤ cap := by omega
    have hkl : (k : Int) ≤ xs.length := by omega
    by_cases hlt : k < xs.length
    · obtain ⟨b', off', e, _, e0, e1⟩ := h.at hwr k hlt
      cases e
      have hlt' : (k : Int) < (xs.length : Int) := by omega
      obtain ⟨p, q, hx⟩ : ∃ p q, xs[k] = (p, q) := ⟨_, _, rfl⟩
      rw [hx] at e0 e1
      have HX : Hid (xs[k] = (p, q)) := hx
      clear hx
      simp only at e0 e1
      have y7 : wr.heap.size ≠ b := by omega
      have y8 : b ≠ wr.heap.size := by omega
      by_cases hq : q ≤ t
      · have hq' : decide (t < q) = false := decide_eq_false (by omega)
        have hq2 : ¬ t < q := by omega
        go_wp2_with (first
          | (at_builtin; refine wpList_append_own _ rfl _ _ 43 rfl w2.heap.size 2 j0 _ 1 8 Try.underlying43 hj jz0 jz1 jz2 rfl (by decide) _ _ _ rfl ((hown.alloc _).alloc _) ⟨wr.heap.size + 1, 0, none⟩ 1 1 [.int .i64 p] rfl rfl ?c1 ?c2 ?c3 ?c4 ?c5 ?c6; rotate_left 5; intro v' w' hown' hgr hnil))
        case c2 => rfl
        case c3 => unfold maxLen; omega
        case c4 => omega
        case c5 => omega
        have hKK : Kept w [(w.heap.size, 0, .int .i64 now), (w.heap.size, 1, .slice (some ⟨b, off, none⟩) xs.length cap), (w.heap.size + 1, 0, .int .i64 0), (w.heap.size + 1, 1, .slice none 0 0)] [w.heap.size + 1] ((wr.alloc (.cells #[.int .i64 p, .int .i64 q] 87)).alloc (.cells #[.int .i64 p] 2)) := KK.out.next (by go_grown)
        have hro : ∀ j, (Value.slice fa k fc).ownBlock = some j → w2.heap.size ≤ j := fun j hj => (hown.lt j hj).1
        have hK2 : Kept w [(w.heap.size, 0, .int .i64 now), (w.heap.size, 1, .slice (some ⟨b, off, none⟩) xs.length cap), (w.heap.size + 1, 0, .int .i64 0), (w.heap.size + 1, 1, .slice none 0 0)] [w.heap.size + 1] w' := hKK.onlyO (OnlyO.of_grown hgr) (fun j hj => by have := hro j hj; omega) (fun c hc e => by have := hro _ e; simp only [List.mem_cons, List.not_mem_nil, or_false] at hc; rcases hc with rfl | rfl | rfl | rfl <;> simp only at this <;> omega) (fun c hc e => by have := hro _ e; rw [List.mem_singleton] at hc; omega)
        have hz2 := hgr.size
        go_roundw
        case rel =>
          refine ⟨k + 1, by go_num, by omega, ?_, ?_, by simp at hz2; omega, hK2⟩
          · intro m hm hmk
            by_cases e : m = k
            · subst e
              rw [HX.out]
              exact hq
            · exact HA.out m hm (by omega)
          · rw [ids_next hlt, HX.out, flatI_append, List.length_append, HID.out]
            exact hown'
        case measure => first | (simp [intOf]; done) | (simp [intOf]; omega)
      · have hq' : decide (t < q) = true := decide_eq_true (by omega)
        have hq2 : t < q := by omega
        have HS : Hid (dueOf t xs = idsTo xs k ∧ restOf t xs = xs.drop k) := adv_split HW.out hk HA.out (fun _ => by rw [HX.out]; exact hq)
        go_wp2_with (first
          | (go_at_call 77; refine (clone_drop (h.here (by go_grown)) (by omega) rfl k _).mono ?_; rintro e w5 ⟨v5, rfl, hown5, hb5⟩; obtain ⟨ua, uc, rfl⟩ := own_slice hown5; have FF : Hid (FW w5 wr.heap.size (.slice ua (xs.length - k) uc) (xs.drop k)) := fw_drop ((own_fv hown5).lower (by simp)); have hb6 : Below wr.heap.size wr w5 := below_step (by go_grown) hb5; have K5 : Hid (Kept w [(w.heap.size, 0, .int .i64 now), (w.heap.size, 1, .slice (some ⟨b, off, none⟩) xs.length cap), (w.heap.size + 1, 0, .int .i64 0), (w.heap.size + 1, 1, .slice none 0 0)] [w.heap.size + 1] w5) := KK.out.next hb6; have r0 := K5.out.cells.2.2.1.2; have r1 := K5.out.cells.2.2.2.1.2; have rf := (K5.out.free _ (List.mem_singleton.2 rfl)).2; have II : Hid (IV w5 w2.heap.size (.slice fa k fc) (idsTo xs k)) := own_ints (by rw [HID.out]; exact row_next hown hb6); have hb7 := K5.out.hb; clear hown5))
        rw [HS.out.1, HS.out.2]
        refine bodyPost_ret (results_two rfl _ _ _ [.int .i64 t, .slice ua (xs.length - k) uc] rfl (set_two (u0 := .int .i64 0) (u1 := .slice none 0 0) _ _ r0 r1) Try.underlying36 rfl (by kernel_rfl)) rfl ?_
        have og1 : Only (w.heap.size + 1) w5 (w5.setCell ⟨w.heap.size + 1, 0, none⟩ (.int .i64 t)) := (Only.refl (w.heap.size + 1) w5).setCell rfl _
        have og2 : Only (w.heap.size + 1) w5 ((w5.setCell ⟨w.heap.size + 1, 0, none⟩ (.int .i64 t)).setCell ⟨w.heap.size + 1, 1, none⟩ (.slice ua (xs.length - k) uc)) := og1.setCell rfl _
        have og := OnlyO.of_only og2
        have f1 := FF.out
        have f2 := II.out
        have hlo := fun g (hg : (Value.slice fa k fc).ownBlock = some g) => (hown.lt g hg).2
        exact ⟨_, _, _, _, _, _, rfl, (f1.lower (by omega)).onlyO og (fun g hg e => by have := (f1.own hg).1; injection e with e; omega), (f2.lower (by omega)).onlyO og (fun g hg e => by have := (f2.own hg).1; injection e with e; omega), fun g hg e => (by have := (f1.own hg).1; have := hlo g e; omega), og2.below (by omega) hb7.size |> hb7.trans⟩
    · have hk4 : ¬ (k : Int) < xs.length := by omega
      have HKE : Hid (xs.length ≤ k) := (by omega : xs.length ≤ k)
      have HS : Hid (dueOf t xs = idsTo xs k ∧ restOf t xs = xs.drop k) := adv_split HW.out hk HA.out (fun h => absurd h hlt)
      go_wp2_with (first
        | (go_at_call 77; refine (clone_end _ _ HKE).mono ?_; rintro e w5 ⟨v5, rfl, hown5, hb5⟩; obtain ⟨ua, uc, rfl⟩ := own_slice hown5; have FF : Hid (FW w5 wr.heap.size (.slice ua (xs.length - k) uc) (xs.drop k)) := fw_drop ((own_fv hown5).lower (by simp)); have hb6 : Below wr.heap.size wr w5 := below_step (by go_grown) hb5; have K5 : Hid (Kept w [(w.heap.size, 0, .int .i64 now), (w.heap.size, 1, .slice (some ⟨b, off, none⟩) xs.length cap), (w.heap.size + 1, 0, .int .i64 0), (w.heap.size + 1, 1, .slice none 0 0)] [w.heap.size + 1] w5) := KK.out.next hb6; have r0 := K5.out.cells.2.2.1.2; have r1 := K5.out.cells.2.2.2.1.2; have rf := (K5.out.free _ (List.mem_singleton.2 rfl)).2; have II : Hid (IV w5 w2.heap.size (.slice fa k fc) (idsTo xs k)) := own_ints (by rw [HID.out]; exact row_next hown hb6); have hb7 := K5.out.hb; clear hown5))
      all_goals
        rw [HS.out.1, HS.out.2]
        refine bodyPost_ret (results_two rfl _ _ _ [.int .i64 t, .slice ua (xs.length - k) uc] rfl (set_two (u0 := .int .i64 0) (u1 := .slice none 0 0) _ _ r0 r1) Try.underlying36 rfl (by kernel_rfl)) rfl ?_
        have og1 : Only (w.heap.size + 1) w5 (w5.setCell ⟨w.heap.size + 1, 0, none⟩ (.int .i64 t)) := (Only.refl (w.heap.size + 1) w5).setCell rfl _
        have og2 : Only (w.heap.size + 1) w5 ((w5.setCell ⟨w.heap.size + 1, 0, none⟩ (.int .i64 t)).setCell ⟨w.heap.size + 1, 1, none⟩ (.slice ua (xs.length - k) uc)) := og1.setCell rfl _
        have og := OnlyO.of_only og2
        have f1 := FF.out
        have f2 := II.out
        have hlo := fun g (hg : (Value.slice fa k fc).ownBlock = some g) => (hown.lt g hg).2
        exact ⟨_, _, _, _, _, _, rfl, (f1.lower (by omega)).onlyO og (fun g hg e => by have := (f1.own hg).1; injection e with e; omega), (f2.lower (by omega)).onlyO og (fun g hg e => by have := (f2.own hg).1; injection e with e; omega), fun g hg e => (by have := (f1.own hg).1; have := hlo g e; omega), og2.below (by omega) hb7.size |> hb7.trans⟩
set_option maxHeartbeats 2000000 in
theorem iadv_nil {w : World} {now : Int} {a : Option Addr} (cap : Nat) (t : Int) (hn : a = none → cap = 0) (hW : WOk now []) (hT : timeB t = true) (hE : now ≤ t) :
    Calls Try.prog 23 #[.agg #[.int .i64 now, .slice a 0 cap], .int .i64 t] w (AdvPost w t [] []) := by
  have HW : Hid (WOk now []) := hW
  clear hW
  have hE' : decide (t < now) = false := decide_eq_false (by omega)
  have h : Smp w.heap.size w a [] := fw_nil w a
  have hc : ([] : List (Int × Int)).length ≤ cap := Nat.zero_le _
  have hcl : ∀ a c W, Calls Try.prog 77 #[.slice a 0 c] W (RowPost W []) := fun a c W => cloneT_any c (fw_nil W a) (by simp)
  have hok := fun W (hb : Below w.heap.size w W) => implWheelOk_yes (w := W) (now := now) (xs := []) cap (fw_nil W a) hc hn HW.out
  simp only [List.length_nil] at hok
  go_enter Try.func23, Try.ntmps23
  go_wp2_with (first
    | (go_at_call 24; refine (hok _ (by go_grown)).mono ?_; rintro e w2 ⟨rfl, hb2⟩; have kc := below_cells hb2; have kf := below_frozens hb2; have hbw := startw hb2; have y1 := sizew hb2; have zb := hb2.size)
    | (go_at_call 54; refine (itime_any _ _).mono ?_; rintro e w2 ⟨rfl, rfl⟩; rw [hT]))
  refine wp_loop_rounds 1 ?_
  rw [rounds_succ]
  go_wp2_with (first
    | (go_at_call 77; refine (hcl _ _ _).mono ?_; rintro e w5 ⟨v5, rfl, hown5, hb5⟩; obtain ⟨ua, uc, rfl⟩ := own_slice hown5; have FF : Hid (FW w5 w2.heap.size (.slice ua 0 uc) []) := own_fv hown5; have kc := fun b o h => (below_cells hb5 b o (Nat.lt_of_lt_of_le h zb)).trans (kc b o h); have kf := fun b o h => (below_frozens hb5 b o (Nat.lt_of_lt_of_le h zb)).trans (kf b o h); have r0 : w5.cell? ⟨w.heap.size + 1, 0, none⟩ = some (.int .i64 0) := (kc _ _ (by simp)).trans (by go_simp); have r1 : w5.cell? ⟨w.heap.size + 1, 1, none⟩ = some (.slice none 0 0) := (kc _ _ (by simp)).trans (by go_simp); have rf : ∀ o : Nat, w5.frozen? ⟨w.heap.size + 1, o, none⟩ = false := fun o => (kf _ _ (by simp)).trans (by go_simp); have hb7 := below_step hbw hb5; clear hown5 kc kf))
  all_goals
    refine bodyPost_ret (results_two rfl _ _ _ [.int .i64 t, .slice ua 0 uc] rfl (set_two (u0 := .int .i64 0) (u1 := .slice none 0 0) _ _ r0 r1) Try.underlying36 rfl (by kernel_rfl)) rfl ?_
    have og1 : Only (w.heap.size + 1) w5 (w5.setCell ⟨w.heap.size + 1, 0, none⟩ (.int .i64 t)) := (Only.refl (w.heap.size + 1) w5).setCell rfl _
    have og2 : Only (w.heap.size + 1) w5 ((w5.setCell ⟨w.heap.size + 1, 0, none⟩ (.int .i64 t)).setCell ⟨w.heap.size + 1, 1, none⟩ (.slice ua 0 uc)) := og1.setCell rfl _
    have f1 := FF.out
    exact ⟨_, _, _, _, _, _, rfl, (f1.lower (by omega)).onlyO (OnlyO.of_only og2) (fun g hg e => by have := (f1.own hg).1; injection e with e; omega), .inr ⟨rfl, rfl⟩, fun g hg e => (by cases e), hb7.trans (og2.below (by omega) hb7.size)⟩
theorem implAdvance_yes {w : World} {now : Int} {a : Option Addr} (cap : Nat) {xs : List (Int × Int)} (t : Int) (h : Smp w.heap.size w a xs) (hc : xs.length ≤ cap) (hn : a = none → cap = 0) (hW : WOk now xs) (hT : timeB t = true) (hE : now ≤ t) :
    Calls Try.prog 23 #[.agg #[.int .i64 now, .slice a xs.length cap], .int .i64 t] w (AdvPost w t (restOf t xs) (dueOf t xs)) := by
  cases xs with
  | nil => exact iadv_nil cap t hn hW hT hE
  | cons x r =>
    obtain ⟨b, off, rfl, hb, _⟩ := h 0 (by simp)
    exact iadv_some cap t h hb hc hW hT hE
end Go.Proofs.Ytdgefdjgpneanac
