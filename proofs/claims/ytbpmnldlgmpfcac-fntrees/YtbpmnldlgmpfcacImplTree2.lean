/- What impl's hasClass, isLeaf, Leaves and Spare answer. -/
import Derived.Test.YtbpmnldlgmpfcacImplTree
import Derived.Test.YtbpmnldlgmpfcacSpecTree2
namespace Go.Proofs.Ytbpmnldlgmpfcac
open Go.ChangeShapes Go.WideShapes Go.ChangeAt Go.RowKit
set_option maxRecDepth 100000
set_option linter.unusedVariables false
set_option linter.unusedSimpArgs false

set_option maxHeartbeats 1000000 in
theorem iClass_any {w : World} {a : Option Addr} (cap : Nat) {ts : List Q4} (i : Int) (h : Quad w.heap.size w a ts) :
    Calls Try.prog 75 #[.slice a ts.length cap, .int .i64 i] w fun e w' => e = .returned (.bool (hasB ts i)) ∧ Below w.heap.size w w' := by
  by_cases hc : treeCode ts = 0
  · have hn := (tree_of hc).l1
    have hn0 := (tree_of hc).l0
    have HH : Hid (hasB ts i = (decide (0 ≤ i) && decide (i ≤ (ts.length : Int) - 1))) := by
      show hasB ts i = _
      unfold hasB
      rw [decide_eq_true hc]
      rfl
    go_enter Try.func75, Try.ntmps75
    go_wp2_with (first
      | (go_at_call 33; refine (iTree_any cap h).mono ?_; rintro e w2 ⟨rfl, hb2⟩; rw [hc])
      | (go_at_call 58; refine (iwithin_any _ _ _ _).mono ?_; rintro e w2 ⟨rfl, rfl⟩))
    go_ret
    exact ⟨retQ HH.out.symm, hb2⟩
  · have hc' : (treeCode ts == 0) = false := by simp [hc]
    have HH : Hid (hasB ts i = false) := by
      show hasB ts i = _
      unfold hasB
      rw [decide_eq_false hc]
      rfl
    go_enter Try.func75, Try.ntmps75
    go_wp2_with (first
      | (go_at_call 33; refine (iTree_any cap h).mono ?_; rintro e w2 ⟨rfl, hb2⟩))
    go_ret
    exact ⟨retQ HH.out.symm, hb2⟩
theorem iClass_is {w : World} {a : Option Addr} (cap : Nat) {ts : List Q4} {i : Int} {f : Bool} (hf : hasB ts i = f) (h : Quad w.heap.size w a ts) :
    Calls Try.prog 75 #[.slice a ts.length cap, .int .i64 i] w fun e w' => e = .returned (.bool f) ∧ Below w.heap.size w w' := by subst hf; exact iClass_any cap i h
theorem iSpare_any {w : World} {a : Option Addr} (cap : Nat) {ts : List Q4} (i : Int) (h : Quad w.heap.size w a ts) :
    Calls Try.prog 40 #[.slice a ts.length cap, .int .i64 i] w fun e w' => e = .returned (.int .i64 (spareOf ts i)) ∧ Below w.heap.size w w' := by
  cases hh : hasB ts i
  · have HP : Hid (spareOf ts i = -1) := by unfold spareOf; rw [hh]; rfl
    rw [HP.out]
    go_enter Try.func40, Try.ntmps40
    go_wp2_with (first | (go_at_call 75; refine (iClass_is cap hh h).mono ?_; rintro e w2 ⟨rfl, hb2⟩; have zb := hb2.size))
    go_ret
    exact ⟨rfl, hb2⟩
  · obtain ⟨ht, i0, i1⟩ := has_tree hh
    have HS : Hid (Sound ts) := ht.sound
    have hl := ht.l1
    clear ht
    obtain ⟨m, rfl⟩ : ∃ m : Nat, i = m := ⟨i.toNat, by omega⟩
    have hm : m < ts.length := by omega
    have HP : Hid (spareOf ts (m : Int) = rateOf ts m - kidTo ts (m : Int) ts.length) := by
      show (if hasB ts (m : Int) = true then _ else _) = _
      rw [if_pos hh, Int.toNat_natCast]
    rw [HP.out]
    go_enter Try.func40, Try.ntmps40
    go_wp2_with (first
      | (go_at_call 75; refine (iClass_is cap hh h).mono ?_; rintro e w2 ⟨rfl, hb2⟩; have zb := hb2.size)
      | (go_at_call 80; refine (iSpareOf_any cap (h.here hb2) HS.out hl hm).mono ?_; rintro e w3 ⟨rfl, hb3⟩))
    go_ret
    exact ⟨rfl, hb2.trans (hb3.mono zb)⟩
/-! Leaves -/
theorem kid_any {w : World} {c : Nat} {i : Int} (hc : w.cell? ⟨c, 0, none⟩ = some (.int .i64 i)) (hz : c < w.heap.size) (p q r s : Int) :
    Calls Try.prog 100 #[.agg #[.int .i64 p, .int .i64 q, .int .i64 r, .int .i64 s], .pointer (some ⟨c, 0, none⟩)] w fun e w' => e = .returned (.bool (p == i)) ∧ Below w.heap.size w w' := by
  have hn : w.heap.size ≠ c := by omega
  go_enter Try.func100, Try.ntmps100
  go_wp2
  go_ret
  exact ⟨rfl, by go_grown⟩
def KidPost (i : Int) (ts : List Q4) (w : World) (e : Ending) (w' : World) : Prop := ∃ z : Int, e = .returned (.int .i64 z) ∧ decide (0 ≤ z) = !leafB ts i ∧ Below w.heap.size w w'
set_option maxHeartbeats 2000000 in
theorem kidIdx_any {w : World} {a : Option Addr} (cap : Nat) {ts : List Q4} {c : Nat} {i : Int} (h : Quad w.heap.size w a ts) (hc : w.cell? ⟨c, 0, none⟩ = some (.int .i64 i)) (hz : c < w.heap.size) (hl : ts.length ≤ 30) :
    Calls Try.prog 109 #[.slice a ts.length cap, .func (.func 100) #[] #[.pointer (some ⟨c, 0, none⟩)]] w (KidPost i ts w) := by
  have eg : ∀ args w, (callFunc 100 args).run Try.prog w = .ok (.enter 100 args) w := enters_of Try.func100 (by kernel_rfl) rfl
  have hl' : (ts.length : Int) ≤ 30 := by omega
  go_enter Try.func109, Try.ntmps109
  go_wp2
  go_loopw [8] (fun s wr => ∃ k : Nat, s = .int .i64 k ∧ k ≤ ts.length ∧ Hid (∀ m (h : m < ts.length), m < k → ts[m].1 ≠ i) ∧ Below w.heap.size w wr) (fun s _ => ts.length - (intOf s).toNat)
  case atStart => exact ⟨0, rfl, by omega, (fun m h k => by omega), Below.refl _ _⟩
  case round =>
    obtain ⟨k, rfl, hk, HA, hwr⟩ := hrel
    by_cases hlt : k < ts.length
    · obtain ⟨b, off, rfl, hb, c0, c1, c2, c3⟩ := h.at hwr k hlt
      have hlt' : (k : Int) < (ts.length : Int) := by omega
      obtain ⟨x, hx⟩ : ∃ x, ts[k] = x := ⟨_, rfl⟩
      rw [hx] at c0 c1 c2 c3
      obtain ⟨p, q, r, s⟩ := x
      have HX : Hid (ts[k].1 = p) := by rw [hx]; exact rfl
      clear hx
      simp only at c0 c1 c2 c3
      have hd := kid_any (w := wr) (i := i) (c := c) ((hwr.cell (by exact hz)).trans hc) (Nat.lt_of_lt_of_le hz hwr.size) p q r s
      by_cases hp : p = i
      · have hp' : (p == i) = true := by simp [hp]
        rw [hp'] at hd
        have HP : Hid (leafB ts i = false) := leaf_no hlt (by rw [HX.out]; exact hp)
        clear hp hp'
        go_wp2_with (first | (go_at_call 100; refine hd.mono ?_; rintro e w3 ⟨rfl, hb3⟩))
        go_ret
        exact ⟨k, rfl, by rw [HP.out]; exact decide_eq_true (by omega), below_step hwr hb3⟩
      · have hp' : (p == i) = false := by simp [hp]
        rw [hp'] at hd
        have HP : Hid (¬ p = i) := hp
        clear hp hp'
        go_wp2_with (first | (go_at_call 100; refine hd.mono ?_; rintro e w3 ⟨rfl, hb3⟩))
        go_roundw
        case rel =>
          refine ⟨k + 1, by go_num, by omega, fun m hm hk => ?_, below_step hwr hb3⟩
          by_cases e : m = k
          · subst e
            rw [HX.out]
            exact HP.out
          · exact HA.out m hm (by omega)
        case measure => first | (simp [intOf]; done) | (simp [intOf]; omega)
    · have e : k = ts.length := by omega
      subst e
      go_wp2
      go_ret
      exact ⟨-1, rfl, by rw [leaf_yes (fun m hm => HA.out m hm hm)]; rfl, hwr⟩
theorem kidHas_any {w : World} {a : Option Addr} (cap : Nat) {ts : List Q4} {c : Nat} {i : Int} (h : Quad w.heap.size w a ts) (hc : w.cell? ⟨c, 0, none⟩ = some (.int .i64 i)) (hz : c < w.heap.size) (hl : ts.length ≤ 30) :
    Calls Try.prog 99 #[.slice a ts.length cap, .func (.func 100) #[] #[.pointer (some ⟨c, 0, none⟩)]] w fun e w' => e = .returned (.bool (!leafB ts i)) ∧ Below w.heap.size w w' := by
  go_enter Try.func99, Try.ntmps99
  go_wp2_with (first | (go_at_call 109; refine (kidIdx_any cap h hc hz hl).mono ?_; rintro e w2 ⟨z, rfl, hzz, hb2⟩; have HZ : Hid (decide (0 ≤ z) = !leafB ts i) := hzz; clear hzz))
  go_ret
  exact ⟨retQ HZ.out, hb2⟩
theorem iLeaf_any {w : World} {a : Option Addr} (cap : Nat) {ts : List Q4} (i : Int) (h : Quad w.heap.size w a ts) (hl : ts.length ≤ 30) :
    Calls Try.prog 83 #[.slice a ts.length cap, .int .i64 i] w fun e w' => e = .returned (.bool (leafB ts i)) ∧ Below w.heap.size w w' := by
  have hb1 : Below w.heap.size w (w.alloc (.cells #[.int .i64 i] 2)) := by go_grown
  have hk := kidHas_any cap (c := w.heap.size) (i := i) (h.here hb1) (by go_simp) (by simp) hl
  go_enter Try.func83, Try.ntmps83
  go_wp2_with (first | (go_at_call 99; refine hk.mono ?_; rintro e w2 ⟨rfl, hb2⟩))
  go_ret
  exact ⟨retQ (by simp), hb1.trans (hb2.mono hb1.size)⟩
theorem iLeaf_is {w : World} {a : Option Addr} (cap : Nat) {ts : List Q4} {i : Int} {f : Bool} (hf : leafB ts i = f) (h : Quad w.heap.size w a ts) (hl : ts.length ≤ 30) :
    Calls Try.prog 83 #[.slice a ts.length cap, .int .i64 i] w fun e w' => e = .returned (.bool f) ∧ Below w.heap.size w w' := by subst hf; exact iLeaf_any cap i h hl
theorem iv_none (w : World) (lo : Nat) : IV w lo (.slice none 0 0) [] := .inr ⟨rfl, rfl⟩
set_option maxHeartbeats 1000000 in
theorem iLeaves_any {w : World} {a : Option Addr} (cap : Nat) {ts : List Q4} (h : Quad w.heap.size w a ts) :
    Calls Try.prog 36 #[.slice a ts.length cap] w (ListPost w (leavesOf ts)) := by
  obtain ⟨j0, hj, jz0, jz1, jz2⟩ := info_parts info_i64
  by_cases hc : treeCode ts = 0
  · have hl := (tree_of hc).l1
    have hln : (ts.length : Int) ≤ 30 := by omega
    have HP : Hid (leavesOf ts = leavesTo ts ts.length) := by show (if treeCode ts = 0 then _ else _) = _; rw [if_pos hc]
    rw [HP.out]
    go_enter Try.func36, Try.ntmps36
    go_wp2_with (first | (go_at_call 33; refine (iTree_any cap h).mono ?_; rintro e w2 ⟨rfl, hb2⟩; rw [hc]; have zb2 := hb2.size))
    go_loopw [3, 10] (fun v i wr => ∃ k : Nat, i = .int .i64 k ∧ k ≤ ts.length ∧ wr.ownsRow w.heap.size 2 1 v (leavesTo ts k).length (flatI (leavesTo ts k)) ∧ Below w.heap.size w wr) (fun _ i _ => ts.length - (intOf i).toNat)
    case atStart => exact ⟨0, rfl, by omega, World.ownsRow_nil _ _ _ _, hb2⟩
    case round =>
      obtain ⟨k, rfl, hk, hown, hbw⟩ := hrel
      have zb := hbw.size
      by_cases hlt : k < ts.length
      · have hlt' : (k : Int) < (ts.length : Int) := by omega
        have HL : Hid ((leavesTo ts k).length ≤ 30) := Nat.le_trans (leaves_length ts k) (by omega)
        cases hf : leafB ts (k : Int)
        · have HN : Hid (leavesTo ts (k + 1) = leavesTo ts k) := leaves_no hf
          go_wp2_with (first
            | (go_at_call 83; refine (iLeaf_is cap hf ((h.mono hbw).up zb) hl).mono ?_; rintro e w3 ⟨rfl, hb3⟩; have hbw3 := hbw.trans (hb3.mono zb); have hown3 := row_next hown hb3))
          go_roundw
          case rel => exact ⟨k + 1, by go_num, by omega, by rw [HN.out]; exact hown3, hbw3⟩
          case measure => first | (simp [intOf]; done) | (simp [intOf]; omega)
        · have HN : Hid (leavesTo ts (k + 1) = leavesTo ts k ++ [(k : Int)]) := leaves_yes hf
          go_wp2_with (first
            | (go_at_call 83; refine (iLeaf_is cap hf ((h.mono hbw).up zb) hl).mono ?_; rintro e w3 ⟨rfl, hb3⟩; have hbw3 := hbw.trans (hb3.mono zb); have hown3 := row_next hown hb3; have zb3 := hbw3.size)
            | (at_builtin; refine wpList_append_own _ rfl _ _ 43 rfl w.heap.size 2 j0 _ 1 8 Try.underlying43 hj jz0 jz1 jz2 rfl (by decide) _ _ _ rfl (hown3.alloc _) ⟨w3.heap.size, 0, none⟩ 1 1 [.int .i64 (k : Int)] rfl rfl ?c1 ?c2 ?c3 ?c4 ?c5 ?c6; rotate_left 5; intro v' w' hown' hgr hnil; have hb4 := below_app hbw3 hgr (fun g hg => (hown3.lt g hg).1)))
          case c1 => exact one_news (by go_simp)
          case c2 => exact flatI_one [(k : Int)]
          case c3 => have := HL.out; unfold maxLen; omega
          case c4 => have := HL.out; omega
          case c5 => simp; omega
          go_roundw
          case rel => exact ⟨k + 1, by go_num, by omega, by rw [HN.out, flatI_append, List.length_append]; exact hown', hb4⟩
          case measure => first | (simp [intOf]; done) | (simp [intOf]; omega)
      · have e : k = ts.length := by omega
        subst e
        obtain ⟨av, cv, rfl⟩ := own_slice hown
        have hiv := own_ints hown
        go_wp2
        go_ret
        exact ⟨_, _, _, rfl, hiv, hbw⟩
  · have HP : Hid (leavesOf ts = []) := by show (if treeCode ts = 0 then _ else _) = _; rw [if_neg hc]
    rw [HP.out]
    have hc' : (treeCode ts == 0) = false := by simp [hc]
    go_enter Try.func36, Try.ntmps36
    go_wp2_with (first
      | (go_at_call 33; refine (iTree_any cap h).mono ?_; rintro e w2 ⟨rfl, hb2⟩))
    go_ret
    exact ⟨_, _, _, rfl, iv_none _ _, hb2⟩
end Go.Proofs.Ytbpmnldlgmpfcac
