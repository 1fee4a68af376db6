/- What impl's searches among seats answer. -/
import Derived.Test.YtoeiheccmpjclafImplSeat
namespace Go.Proofs.Ytoeiheccmpjclaf
open Go.ChangeShapes Go.WideShapes Go.ChangeAt Go.RowKit
set_option maxRecDepth 100000
set_option linter.unusedVariables false
set_option linter.unusedSimpArgs false

theorem clos_any {w : World} {c : Nat} {id : Int} (hc : w.cell? ⟨c, 0, none⟩ = some (.int .i64 id)) (hz : c < w.heap.size) (p : Int) (q : Bool) :
    Calls Try.prog 75 #[.agg #[.int .i64 p, .bool q], .pointer (some ⟨c, 0, none⟩)] w fun e w' => e = .returned (.bool (pB id (p, q))) ∧ Below w.heap.size w w' := by
  have hn : w.heap.size ≠ c := by omega
  have hn' : c ≠ w.heap.size := by omega
  cases q
  · rw [show pB id (p, false) = true from rfl]
    go_enter Try.func75, Try.ntmps75
    go_wp2
    go_ret
    exact ⟨rfl, by go_grown⟩
  · rw [show pB id (p, true) = decide (id ≤ p) from rfl]
    go_enter Try.func75, Try.ntmps75
    go_wp2
    go_ret
    exact ⟨rfl, by go_grown⟩
/-- The first that a test strikes, or -1. -/
def FstIs (f : Int × Bool → Bool) (ps : List (Int × Bool)) (z : Int) : Prop := (z = -1 ∧ ∀ m (h : m < ps.length), f ps[m] = false) ∨ ∃ (k : Nat) (h : k < ps.length), z = k ∧ f ps[k] = true ∧ ∀ m (h : m < ps.length), m < k → f ps[m] = false
def FstPost (f : Int × Bool → Bool) (ps : List (Int × Bool)) (w : World) (e : Ending) (w' : World) : Prop := ∃ z, e = .returned (.int .i64 z) ∧ FstIs f ps z ∧ Below w.heap.size w w'
set_option maxHeartbeats 2000000 in
theorem ixf_any {w : World} {g c : Nat} {id : Int} {ps : List (Int × Bool)} (h : RowB w g ps) (hc : w.cell? ⟨c, 0, none⟩ = some (.int .i64 id)) (hz : c < w.heap.size) :
    Calls Try.prog 74 #[.slice (some ⟨g, 0, none⟩) 50 50, .func (.func 75) #[] #[.pointer (some ⟨c, 0, none⟩)]] w (FstPost (pB id) ps w) := by
  have eg : ∀ args w, (callFunc 75 args).run Try.prog w = .ok (.enter 75 args) w := enters_of Try.func75 (by kernel_rfl) rfl
  have HR : Hid (RowB w g ps) := h
  have HP : Hid (ps.length = 50) := h.1
  clear h
  go_enter Try.func74, Try.ntmps74
  go_wp2
  go_loopw [8] (fun i wr => ∃ k : Nat, i = .int .i64 k ∧ k ≤ 50 ∧ (∀ m (h : m < ps.length), m < k → pB id ps[m] = false) ∧ Below w.heap.size w wr) (fun i _ => 50 - (intOf i).toNat)
  case atStart => exact ⟨0, rfl, by omega, (fun m h k => by omega), Below.refl _ _⟩
  case round =>
    obtain ⟨k, rfl, hk, hall, hwr⟩ := hrel
    have HA : Hid (∀ m (h : m < ps.length), m < k → pB id ps[m] = false) := hall
    clear hall
    by_cases hlt : k < 50
    · have hkp : k < ps.length := by rw [HP.out]; exact hlt
      have R := HR.out.next hwr
      have c0 := R.c0 k hkp
      have c1 := R.c1 k hkp
      have hlt' : (k : Int) < 50 := by omega
      obtain ⟨p, q, hx⟩ : ∃ p q, ps[k] = (p, q) := ⟨_, _, rfl⟩
      have HX : Hid (∃ h : k < ps.length, ps[k] = (p, q)) := ⟨hkp, hx⟩
      rw [hx] at c0 c1
      clear hx R hkp
      simp only at c0 c1
      have hd := clos_any (w := wr) (id := id) (c := c) ((hwr.cell (by exact hz)).trans hc) (Nat.lt_of_lt_of_le hz hwr.size) p q
      cases hp : pB id (p, q)
      · rw [hp] at hd
        have HPB : Hid (pB id (p, q) = false) := hp
        clear hp
        go_wp2_with (first | (go_at_call 75; refine hd.mono ?_; rintro e w3 ⟨rfl, hb3⟩))
        go_roundw
        case rel =>
          refine ⟨k + 1, by go_num, by omega, fun m hm hk => ?_, below_step hwr hb3⟩
          by_cases e : m = k
          · subst e
            obtain ⟨_, hx⟩ := HX.out
            rw [hx]
            exact HPB.out
          · exact HA.out m hm (by omega)
        case measure => first | (simp [intOf]; done) | (simp [intOf]; omega)
      · rw [hp] at hd
        have HPB : Hid (pB id (p, q) = true) := hp
        clear hp
        go_wp2_with (first | (go_at_call 75; refine hd.mono ?_; rintro e w3 ⟨rfl, hb3⟩))
        go_ret
        obtain ⟨hkp, hx⟩ := HX.out
        exact ⟨k, rfl, .inr ⟨k, hkp, rfl, by rw [hx]; exact HPB.out, HA.out⟩, below_step hwr hb3⟩
    · have e : k = 50 := by omega
      subst e
      go_wp2
      go_ret
      exact ⟨_, rfl, .inl ⟨rfl, fun m hm => HA.out m hm (by rw [← HP.out]; exact hm)⟩, hwr⟩
def eB (id : Int) (p : Int × Bool) : Bool := decide (p = (id, true))
set_option maxHeartbeats 2000000 in
theorem ix_any {w : World} {g : Nat} {id : Int} {ps : List (Int × Bool)} (h : RowB w g ps) :
    Calls Try.prog 77 #[.slice (some ⟨g, 0, none⟩) 50 50, .agg #[.int .i64 id, .bool true]] w (FstPost (eB id) ps w) := by
  have HR : Hid (RowB w g ps) := h
  have HP : Hid (ps.length = 50) := h.1
  clear h
  go_enter Try.func77, Try.ntmps77
  go_upto_region 1 with (fail)
  obtain ⟨x, hx⟩ : ∃ x, x = w.alloc (.cells #[.int .i64 id, .bool true] 65) := ⟨_, rfl⟩
  rw [← hx]
  have hbx : Below w.heap.size w x := by rw [hx]; go_grown
  have b0 : x.cell? ⟨w.heap.size, 0, none⟩ = some (.int .i64 id) := by rw [hx]; go_simp
  have b1 : x.cell? ⟨w.heap.size, 1, none⟩ = some (.bool true) := by rw [hx]; go_simp
  have hxz : w.heap.size < x.heap.size := by rw [hx]; simp
  clear hx
  go_wp2
  go_loopw [8] (fun i wr => ∃ k : Nat, i = .int .i64 k ∧ k ≤ 50 ∧ (∀ m (h : m < ps.length), m < k → eB id ps[m] = false) ∧ Below x.heap.size x wr) (fun i _ => 50 - (intOf i).toNat)
  case atStart => exact ⟨0, rfl, by omega, (fun m h k => by omega), Below.refl _ _⟩
  case round =>
    obtain ⟨k, rfl, hk, hall, hwr⟩ := hrel
    have HA : Hid (∀ m (h : m < ps.length), m < k → eB id ps[m] = false) := hall
    have hww : Below w.heap.size w wr := below_two hbx hwr
    have b0 := (hwr.cell (p := ⟨w.heap.size, 0, none⟩) (by exact hxz)).trans b0
    have b1 := (hwr.cell (p := ⟨w.heap.size, 1, none⟩) (by exact hxz)).trans b1
    clear hall
    by_cases hlt : k < 50
    · have hkp : k < ps.length := by rw [HP.out]; exact hlt
      have R := HR.out.next hww
      have c0 := R.c0 k hkp
      have c1 := R.c1 k hkp
      have hlt' : (k : Int) < 50 := by omega
      obtain ⟨p, q, hx⟩ : ∃ p q, ps[k] = (p, q) := ⟨_, _, rfl⟩
      have HX : Hid (∃ h : k < ps.length, ps[k] = (p, q)) := ⟨hkp, hx⟩
      rw [hx] at c0 c1
      clear hx R hkp
      simp only at c0 c1
      by_cases hp : p = id
      · subst hp
        cases q
        · go_wp2
          go_quiet (fail)
          go_wp2
          go_roundw
          case rel =>
            refine ⟨k + 1, by go_num, by omega, fun m hm hk => ?_, below_drews hwr _⟩
            by_cases e : m = k
            · subst e
              obtain ⟨_, hx⟩ := HX.out
              rw [hx]
              exact decide_eq_false (fun e => by cases e)
            · exact HA.out m hm (by omega)
          case measure => first | (simp [intOf]; done) | (simp [intOf]; omega)
        · go_wp2
          go_quiet (fail)
          go_wp2
          go_ret
          obtain ⟨hkp, hx⟩ := HX.out
          exact ⟨k, rfl, .inr ⟨k, hkp, rfl, by rw [hx]; exact decide_eq_true rfl, HA.out⟩, below_drews hww _⟩
      · have hp' : (id == p) = false := beq_eq_false_iff_ne.2 (fun e => hp e.symm)
        have hp2 : ¬ id = p := fun e => hp e.symm
        have HN : Hid (¬ p = id) := hp
        clear hp
        go_wp2
        go_quiet (fail)
        go_wp2
        go_roundw
        case rel =>
          refine ⟨k + 1, by go_num, by omega, fun m hm hk => ?_, below_drews hwr _⟩
          by_cases e : m = k
          · subst e
            obtain ⟨_, hx⟩ := HX.out
            rw [hx]
            exact decide_eq_false (fun e => HN.out (by injection e))
          · exact HA.out m hm (by omega)
        case measure => first | (simp [intOf]; done) | (simp [intOf]; omega)
    · have e : k = 50 := by omega
      subst e
      go_wp2
      go_ret
      exact ⟨_, rfl, .inl ⟨rfl, fun m hm => HA.out m hm (by rw [← HP.out]; exact hm)⟩, hww⟩
end Go.Proofs.Ytoeiheccmpjclaf
