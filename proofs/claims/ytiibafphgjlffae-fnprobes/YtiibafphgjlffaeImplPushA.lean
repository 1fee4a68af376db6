/- impl.Push's helpers: what is earlier, the closures, the cuts, what goes from the back and from the front, the copy. -/
import Derived.Test.YtiibafphgjlffaeImplFilterOk
import Derived.Test.YtiibafphgjlffaeSpecPush3
import Derived.ArgAppend
namespace Go.Proofs.Ytiibafphgjlffae
open Go.ChangeShapes Go.WideShapes Go.ChangeAt Go.RowKit
set_option maxRecDepth 100000
set_option linter.unusedVariables false
set_option linter.unusedSimpArgs false

theorem before_any {w : World} {a : Option Addr} (cap : Nat) {xs : List (Int × Int)} (t : Int) (h : Smp w.heap.size w a xs) (hl : xs.length ≤ 100) (ht : 0 ≤ t) :
    Calls Try.prog 117 #[.int .i64 t, .slice a xs.length cap] w fun e w' => e = .returned (.bool (decide (t < lastAt xs))) ∧ w' = w := by
  rcases xs.eq_nil_or_concat with rfl | ⟨ys, x, hxy⟩
  · have hd : decide (t < lastAt []) = false := decide_eq_false (by unfold lastAt; simp only [List.getLast?_nil]; omega)
    rw [hd]
    go_enter Try.func117, Try.ntmps117
    go_wp2
    go_ret
    exact ⟨rfl, rfl⟩
  · obtain ⟨r, s⟩ := x
    obtain ⟨j, hj⟩ : ∃ j, ys.length = j := ⟨_, rfl⟩
    have hlen : xs.length = j + 1 := by rw [hxy]; simp [hj]
    have hlr : lastAt xs = r := by rw [hxy]; unfold lastAt; simp
    have hr : ∀ (hh : j < xs.length), xs[j] = (r, s) := by subst hxy; intro hh; simp [← hj]
    have hr' := hr (by omega)
    obtain ⟨b, off, rfl, hbl, c0, c1⟩ := h j (by omega)
    rw [hr'] at c0
    simp only at c0
    rw [hlr]
    have hj0 : (0 : Int) ≤ (j : Int) := by omega
    have hj1 : (j : Int) < (xs.length : Int) := by omega
    have hj2 : 0 < xs.length := by omega
    have hjw : IntKind.i64.wrap ((xs.length : Int) - 1) = (j : Int) := by rw [IntKind.wrap_i64]; omega
    clear hr hr' hxy hlr hlen c1
    go_enter Try.func117, Try.ntmps117
    go_wp2
    go_ret
    exact ⟨rfl, rfl⟩
theorem clo1_any {w : World} {bs bm : Nat} (y z q : Int) (most : Bool) (c1 : w.cell? ⟨bs, 1, none⟩ = some (.int .i64 q)) (cm : w.cell? ⟨bm, 0, none⟩ = some (.bool most)) (h1 : bs < w.heap.size) (h2 : bm < w.heap.size) :
    Calls Try.prog 119 #[.agg #[.int .i64 y, .int .i64 z], .pointer (some ⟨bs, 0, none⟩), .pointer (some ⟨bm, 0, none⟩)] w fun e w' => e = .returned (.bool (!beatB most z q)) ∧ Below w.heap.size w w' := by
  go_enter Try.func119, Try.ntmps119
  go_wp2_with (first | (go_at_call 120; refine (beats_any _ _ _ _).mono ?_; rintro e w2 ⟨rfl, rfl⟩))
  go_ret
  exact ⟨rfl, by go_grown⟩
theorem clo2_any {w : World} {bs bw : Nat} (y z p win : Int) (c1 : w.cell? ⟨bs, 0, none⟩ = some (.int .i64 p)) (cm : w.cell? ⟨bw, 0, none⟩ = some (.int .i64 win)) (h1 : bs < w.heap.size) (h2 : bw < w.heap.size) (hpw : IntKind.i64.wrap (p - win) = p - win) :
    Calls Try.prog 122 #[.agg #[.int .i64 y, .int .i64 z], .pointer (some ⟨bs, 0, none⟩), .pointer (some ⟨bw, 0, none⟩)] w fun e w' => e = .returned (.bool (decide (y < p - win))) ∧ Below w.heap.size w w' := by
  go_enter Try.func122, Try.ntmps122
  go_wp2
  go_ret
  exact ⟨rfl, by go_grown⟩
theorem cut0_any (a : Option Addr) (n cap m : Nat) (w : World) (ht : m ≤ cap) (hn : a = none → cap = 0) :
    Calls Try.prog 123 #[.slice a n cap, .int .i64 0, .int .i64 m] w fun e w' => e = .returned (.slice a m m) ∧ w' = w := by
  have h1 : (m : Int) ≤ (cap : Int) := by omega
  cases a with
  | none =>
    obtain rfl := hn rfl
    obtain rfl : m = 0 := by omega
    go_enter Try.func123, Try.ntmps123
    go_wp2
    go_ret
    exact ⟨rfl, rfl⟩
  | some ad =>
    go_enter Try.func123, Try.ntmps123
    go_wp2
    go_ret
    exact ⟨rfl, rfl⟩
theorem cuts_any (b off n cap f m : Nat) (w : World) (hf : f < m) (ht : m ≤ cap) :
    Calls Try.prog 123 #[.slice (some ⟨b, off, none⟩) n cap, .int .i64 f, .int .i64 m] w fun e w' => e = .returned (.slice (some ⟨b, off + f * 2, none⟩) (m - f) (m - f)) ∧ w' = w := by
  have h1 : (m : Int) ≤ (cap : Int) := by omega
  have h2 : (f : Int) ≤ (m : Int) := by omega
  have h3 : ¬ m = f := by omega
  have h4 : ¬ m - f = 0 := by omega
  go_enter Try.func123, Try.ntmps123
  go_wp2
  go_ret
  exact ⟨rfl, rfl⟩
/-- From place m on nothing beats q, and what is just ahead does. -/
def BackTo (most : Bool) (q : Int) (xs : List (Int × Int)) (m : Nat) : Prop := (∀ i (h : i < xs.length), m ≤ i → beatB most xs[i].2 q = false) ∧ (∀ j (h : j < xs.length), j + 1 = m → beatB most xs[j].2 q = true)
def WlPost (w : World) (a : Option Addr) (most : Bool) (q : Int) (xs : List (Int × Int)) (e : Ending) (w' : World) : Prop := ∃ m, e = .returned (.slice a m m) ∧ m ≤ xs.length ∧ BackTo most q xs m ∧ Below w.heap.size w w'
set_option maxHeartbeats 2000000 in
theorem wlast_any {w : World} {a : Option Addr} {cap bs bm : Nat} {xs : List (Int × Int)} {q : Int} {most : Bool} (h : Smp w.heap.size w a xs) (hl : xs.length ≤ 100) (hlc : xs.length ≤ cap) (hn : a = none → cap = 0)
    (c1 : w.cell? ⟨bs, 1, none⟩ = some (.int .i64 q)) (cm : w.cell? ⟨bm, 0, none⟩ = some (.bool most)) (h1 : bs < w.heap.size) (h2 : bm < w.heap.size) :
    Calls Try.prog 118 #[.slice a xs.length cap, .func (.func 119) #[] #[.pointer (some ⟨bs, 0, none⟩), .pointer (some ⟨bm, 0, none⟩)]] w (WlPost w a most q xs) := by
  go_enter Try.func118, Try.ntmps118
  go_wp2
  go_loopw [5] (fun i wr => ∃ m : Nat, i = .int .i64 m ∧ m ≤ xs.length ∧ (∀ i (h : i < xs.length), m ≤ i → beatB most xs[i].2 q = false) ∧ Below w.heap.size w wr) (fun i _ => (intOf i).toNat)
  case atStart => exact ⟨xs.length, rfl, Nat.le_refl _, fun i h hm => absurd hm (by omega), Below.refl _ _⟩
  case round =>
    obtain ⟨m, rfl, hm, hback, hwr⟩ := hrel
    have d1 := (below_cells hwr _ _ h1).trans c1
    have dm := (below_cells hwr _ _ h2).trans cm
    have zr := hwr.size
    have HB : Hid (∀ i (h : i < xs.length), m ≤ i → beatB most xs[i].2 q = false) := hback
    clear hback
    cases m with
    | zero =>
      go_wp2_with (first | (go_at_call 123; refine (cut0_any a _ cap 0 _ (by omega) hn).mono ?_; rintro e w2 ⟨rfl, rfl⟩))
      go_ret
      exact ⟨0, rfl, by omega, ⟨HB.out, fun j _ e => absurd e (by omega)⟩, hwr⟩
    | succ j =>
      have hj : j < xs.length := by omega
      obtain ⟨b, off, rfl, hb, e0, e1⟩ := h.at hwr j hj
      obtain ⟨x, hx⟩ : ∃ x, xs[j] = x := ⟨_, rfl⟩
      rw [hx] at e0 e1
      obtain ⟨y, z⟩ := x
      have HX : Hid (xs[j] = (y, z)) := hx
      clear hx
      simp only at e0 e1
      have hj0 : (0 : Int) ≤ (j : Int) := by omega
      have hj1 : (j : Int) < (xs.length : Int) := by omega
      have hj2 : (0 : Int) < (j : Int) + 1 := by omega
      have hjw : IntKind.i64.wrap (j : Int) = (j : Int) := by rw [IntKind.wrap_i64]; omega
      obtain ⟨f, hf⟩ : ∃ f, beatB most z q = f := ⟨_, rfl⟩
      have HF : Hid (beatB most z q = f) := hf
      clear hf
      cases f
      · go_wp2_with (first
          | (go_at_call 119; refine (clo1_any y z q most d1 dm (by omega) (by omega)).mono ?_; rintro e w2 ⟨rfl, hb2⟩; rw [HF.out]; have hw2 := below_step hwr hb2; simp only [Bool.not_false]))
        go_roundw
        case rel => exact ⟨j, by go_num, by omega, (fun i hi hji => by
          by_cases e : i = j
          · subst e; rw [HX.out]; exact HF.out
          · exact HB.out i hi (by omega)), hw2⟩
        case measure => first | (simp [intOf]; done) | (simp [intOf]; omega)
      · go_wp2_with (first
          | (go_at_call 119; refine (clo1_any y z q most d1 dm (by omega) (by omega)).mono ?_; rintro e w2 ⟨rfl, hb2⟩; rw [HF.out]; have hw2 := below_step hwr hb2; simp only [Bool.not_true])
          | (go_at_call 123; refine (cut0_any _ _ cap (j + 1) _ (by omega) hn).mono ?_; rintro e w3 ⟨rfl, rfl⟩))
        go_ret
        exact ⟨j + 1, rfl, by omega, ⟨HB.out, fun i hi e => by obtain rfl : i = j := (by omega); rw [HX.out]; exact HF.out⟩, hw2⟩
end Go.Proofs.Ytiibafphgjlffae
