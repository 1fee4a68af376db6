/- What spec.l5Without answers. -/
import Derived.Test.YtdgefdjgpneanacWhl
import Derived.Test.YtdgefdjgpneanacGrpC
import Derived.Laws.AppendOwn
namespace Go.Proofs.Ytdgefdjgpneanac
open Go.ChangeShapes Go.WideShapes Go.ChangeAt Go.RowKit
set_option maxRecDepth 100000
set_option linter.unusedVariables false
set_option linter.unusedSimpArgs false

def withTo (id : Int) (xs : List (Int × Int)) (k : Nat) : List (Int × Int) := (xs.take k).filter fun x => !decide (x.1 = id)
def withoutOf (id : Int) (xs : List (Int × Int)) : List (Int × Int) := xs.filter fun x => !decide (x.1 = id)
theorem with_zero (id : Int) (xs : List (Int × Int)) : withTo id xs 0 = [] := rfl
theorem with_all (id : Int) (xs : List (Int × Int)) : withTo id xs xs.length = withoutOf id xs := by unfold withTo withoutOf; rw [List.take_length]
theorem with_le (id : Int) (xs : List (Int × Int)) (k : Nat) : (withTo id xs k).length ≤ xs.length := Nat.le_trans (List.length_filter_le _ _) (by rw [List.length_take]; exact Nat.min_le_right _ _)
theorem without_le (id : Int) (xs : List (Int × Int)) : (withoutOf id xs).length ≤ xs.length := List.length_filter_le _ _
theorem with_yes {id : Int} {xs : List (Int × Int)} {k : Nat} (h : k < xs.length) (hk : ¬ xs[k].1 = id) : withTo id xs (k + 1) = withTo id xs k ++ [xs[k]] := by
  unfold withTo
  rw [List.take_succ_eq_append_getElem h, List.filter_append]
  simp [hk]
theorem with_no {id : Int} {xs : List (Int × Int)} {k : Nat} (h : k < xs.length) (hk : xs[k].1 = id) : withTo id xs (k + 1) = withTo id xs k := by
  unfold withTo
  rw [List.take_succ_eq_append_getElem h, List.filter_append]
  simp [hk]
theorem own_none (w : World) (t : TypeId) : (w.alloc (.cells #[] t)).ownsRow w.heap.size t 2 (.slice (some ⟨w.heap.size, 0, none⟩) 0 0) 0 [] :=
  ⟨rfl, .inr ⟨w.heap.size, 0, #[], rfl, Nat.le_refl _, heap_alloc_new _ _, Nat.le_refl _, by unfold maxLen; omega, rfl, rfl⟩⟩
theorem two_news {w : World} {g : Nat} {u u' : Value} (h : w.cell? ⟨g, 0, none⟩ = some u) (h' : w.cell? ⟨g, 1, none⟩ = some u') : ∀ j v, [u, u'][j]? = some v → w.cell? ((⟨g, 0, none⟩ : Addr).add j) = some v := by
  intro j v hv
  match j, hv with
  | 0, hv => obtain rfl : u = v := by simpa using hv
             exact h
  | 1, hv => obtain rfl : u' = v := by simpa using hv
             exact h'
/-- A list that was made anew. -/
def NewPost (w : World) (L : List (Int × Int)) (e : Ending) (w' : World) : Prop := ∃ g cap, e = .returned (.slice (some ⟨g, 0, none⟩) L.length cap) ∧ w.heap.size ≤ g ∧ g < w'.heap.size ∧ Fill w' g L.length L L.length ∧ L.length ≤ cap ∧ Below w.heap.size w w'
set_option maxHeartbeats 4000000 in
theorem specWithout_any {w : World} {a : Option Addr} (cap : Nat) {xs : List (Int × Int)} (id : Int) (h : Smp w.heap.size w a xs) (hl : xs.length ≤ 200) :
    Calls Try.prog 75 #[.slice a xs.length cap, .int .i64 id] w (NewPost w (withoutOf id xs)) := by
  obtain ⟨i0, hi, hz0, hz1, hz2⟩ := info_parts info_tim
  go_enter Try.func75, Try.ntmps75
  go_wp2
  go_loopw [5, 6] (fun v i wr => ∃ k : Nat, i = .int .i64 k ∧ k ≤ xs.length ∧ wr.ownsRow w.heap.size 87 2 v (withTo id xs k).length (flat (withTo id xs k)) ∧ v ≠ .slice none 0 0 ∧ w.heap.size < wr.heap.size ∧ Below w.heap.size w wr) (fun _ i _ => xs.length - (intOf i).toNat)
  case atStart => exact ⟨0, rfl, by omega, own_none w _, (by intro e; cases e), by simp, by go_grown⟩
  case round =>
    obtain ⟨k, rfl, hk, hown, hvn, hz, hwr⟩ := hrel
    by_cases hlt : k < xs.length
    · obtain ⟨b, off, rfl, hb, c0, c1⟩ := h.at hwr k hlt
      have hlt' : (k : Int) < (xs.length : Int) := by omega
      have hl' : (xs.length : Int) ≤ 200 := by omega
      obtain ⟨x, hx⟩ : ∃ x, xs[k] = x := ⟨_, rfl⟩
      rw [hx] at c0 c1
      obtain ⟨p, q⟩ := x
      have HX : Hid (xs[k] = (p, q)) := hx
      clear hx
      simp only at c0 c1
      by_cases hp : p = id
      · have hks := with_no (id := id) (k := k) (xs := xs) hlt (by rw [HX.out]; exact hp)
        have HK : Hid (withTo id xs (k + 1) = withTo id xs k) := hks
        clear hks
        subst hp
        go_wp2
        go_roundw
        case rel => exact ⟨k + 1, by go_num, by omega, by rw [HK.out]; exact hown, hvn, hz, hwr⟩
        case measure => first | (simp [intOf]; done) | (simp [intOf]; omega)
      · have hks := with_yes (id := id) (k := k) (xs := xs) hlt (by rw [HX.out]; exact hp)
        rw [HX.out] at hks
        have HK : Hid (withTo id xs (k + 1) = withTo id xs k ++ [(p, q)]) := hks
        clear hks
        have hp' : (p == id) = false := by simp [hp]
        have hle : (withTo id xs k).length ≤ 200 := Nat.le_trans (with_le _ _ _) hl
        have HLE : Hid ((withTo id xs k).length ≤ 200) := hle
        clear hle
        go_wp2_with (first
          | (at_builtin; refine wpList_append_own _ rfl _ _ 34 rfl w.heap.size 87 i0 _ 2 16 Try.underlying34 hi hz0 hz1 hz2 rfl (by decide) _ _ _ rfl (hown.alloc _) ⟨wr.heap.size, 0, none⟩ 1 1 [.int .i64 p, .int .i64 q] rfl rfl ?c1 ?c2 ?c3 ?c4 ?c5 ?c6; rotate_left 5; intro v' w' hown' hgr hnil; have hvn' := fun e => hvn (hnil.1 e).1; have zw := hgr.size))
        case c1 => exact two_news (by go_simp) (by go_simp)
        case c2 => exact flat_one' [(p, q)]
        case c3 => have := HLE.out; unfold maxLen; omega
        case c4 => have := HLE.out; omega
        case c5 => simp; omega
        have hbw := (hwr.alloc (by omega) (.cells #[.int .i64 p, .int .i64 q] 87)).grown hgr (by simp; omega) (fun g hg => (hown.lt g hg).1)
        go_roundw
        case rel => exact ⟨k + 1, by go_num, by omega, by rw [HK.out, flat_append, List.length_append]; exact hown', hvn', by simp at zw; omega, hbw⟩
        case measure => first | (simp [intOf]; done) | (simp [intOf]; omega)
    · have e : k = xs.length := by omega
      subst e
      rw [with_all] at hown
      obtain ⟨g, c, rfl, h1, h2, f, hc⟩ := own_tim hown hvn
      go_wp2
      go_ret
      exact ⟨g, c, rfl, h1, h2, f, hc, hwr⟩
theorem own_fv {w : World} {base : Nat} {v : Value} {xs : List (Int × Int)} (h : w.ownsRow base 87 2 v xs.length (flat xs)) : FW w base v xs := by
  by_cases hn : v = .slice none 0 0
  · rcases h.2 with ⟨_, e⟩ | ⟨g, cap, cur, e, _⟩
    · exact .inr ⟨⟨_, hn⟩, List.eq_nil_of_length_eq_zero e⟩
    · rw [hn] at e
      cases e
  · exact .inl (own_tim h hn)
end Go.Proofs.Ytdgefdjgpneanac
