/- What spec.Cancel answers. -/
import Derived.Test.YtcmgaaopkhjelakSpecWheelOk
import Derived.Test.YtcmgaaopkhjelakSpecWithout
namespace Go.Proofs.Ytcmgaaopkhjelak
open Go.ChangeShapes Go.WideShapes Go.ChangeAt Go.RowKit
set_option maxRecDepth 100000
set_option linter.unusedVariables false
set_option linter.unusedSimpArgs false

theorem specWheelOk_yes {w : World} {now : Int} {a : Option Addr} (cap : Nat) {xs : List (Int × Int)} (h : Smp w.heap.size w a xs) (hW : WOk now xs) :
    Calls Try.prog 9 #[.agg #[.int .i64 now, .slice a xs.length cap]] w fun e w' => e = .returned (.bool true) ∧ Below w.heap.size w w' := by
  refine (specWheelOk_any now cap h (by have := hW.2.1; omega)).mono ?_
  rintro e w' ⟨f, rfl, hf, hb⟩
  exact ⟨by rw [hf.2 hW], hb⟩
theorem specWheelOk_no {w : World} {now : Int} {a : Option Addr} (cap : Nat) {xs : List (Int × Int)} (h : Smp w.heap.size w a xs) (hl : (xs.length : Int) ≤ 9223372036854775807) (hW : ¬ WOk now xs) :
    Calls Try.prog 9 #[.agg #[.int .i64 now, .slice a xs.length cap]] w fun e w' => e = .returned (.bool false) ∧ Below w.heap.size w w' := by
  refine (specWheelOk_any now cap h hl).mono ?_
  rintro e w' ⟨f, rfl, hf, hb⟩
  cases f
  · exact ⟨rfl, hb⟩
  · exact absurd (hf.1 rfl) hW
/-- A wheel that was made anew, and a flag. -/
def WheelPost (w : World) (t : Int) (L : List (Int × Int)) (f : Bool) (e : Ending) (w' : World) : Prop := ∃ a n c, e = .returned (.tuple #[.agg #[.int .i64 t, .slice a n c], .bool f]) ∧ FW w' w.heap.size (.slice a n c) L ∧ Below w.heap.size w w'
theorem WheelPost.zero {w w' : World} (hb : Below w.heap.size w w') : WheelPost w 0 [] false (.returned (.tuple #[.agg #[.int .i64 0, .slice none 0 0], .bool false])) w' := ⟨none, 0, 0, rfl, .inr ⟨⟨_, rfl⟩, rfl⟩, hb⟩
theorem startw {w w' : World} {A B : Obj} (h : Below ((w.alloc A).alloc B).heap.size ((w.alloc A).alloc B) w') : Below w.heap.size w w' := below_step (w := w) (by go_grown) h
theorem sizew {w w' : World} {A B : Obj} (h : Below ((w.alloc A).alloc B).heap.size ((w.alloc A).alloc B) w') : w.heap.size + 1 < w'.heap.size := by
  have := h.size
  simp at this
  omega
set_option maxHeartbeats 2000000 in
theorem specCancel_no {w : World} {now : Int} {a : Option Addr} (cap : Nat) {xs : List (Int × Int)} (id : Int) (h : Smp w.heap.size w a xs) (hl : (xs.length : Int) ≤ 9223372036854775807) (hW : ¬ WOk now xs) :
    Calls Try.prog 17 #[.agg #[.int .i64 now, .slice a xs.length cap], .int .i64 id] w (WheelPost w 0 [] false) := by
  go_enter Try.func17, Try.ntmps17
  go_wp2_with (first
    | (go_at_call 9; refine (specWheelOk_no cap (h.here (by go_grown)) hl hW).mono ?_; rintro e w2 ⟨rfl, hb2⟩; have kc := below_cells hb2; have kf := below_frozens hb2; have hbw := startw hb2; have y1 := sizew hb2))
  refine bodyPost_ret (results_two rfl _ _ _ [.int .i64 0, .slice none 0 0] rfl (set_two (u0 := .int .i64 0) (u1 := .slice none 0 0) _ _ ?_ ?_) Try.underlying29 rfl (by kernel_rfl)) rfl ?_
  · rw [kc _ _ (by simp)]; go_simp
  · rw [kc _ _ (by simp)]; go_simp
  · exact WheelPost.zero (by go_grown)
set_option maxHeartbeats 2000000 in
theorem specCancel_yes {w : World} {now : Int} {a : Option Addr} (cap : Nat) {xs : List (Int × Int)} (id : Int) (h : Smp w.heap.size w a xs) (hW : WOk now xs) :
    Calls Try.prog 17 #[.agg #[.int .i64 now, .slice a xs.length cap], .int .i64 id] w (WheelPost w now (withoutOf id xs) (decide ((withoutOf id xs).length < xs.length))) := by
  have hl := hW.2.1
  have HW : Hid (WOk now xs) := hW
  clear hW
  obtain ⟨L, hL⟩ : ∃ L, withoutOf id xs = L := ⟨_, rfl⟩
  have hLl : L.length ≤ xs.length := hL ▸ without_le id xs
  have HL : Hid (withoutOf id xs = L) := hL
  have HLl : Hid (L.length ≤ xs.length) := hLl
  rw [hL]
  clear hL hLl
  go_enter Try.func17, Try.ntmps17
  go_wp2_with (first
    | (go_at_call 9; refine (specWheelOk_yes cap (h.here (by go_grown)) HW.out).mono ?_; rintro e w2 ⟨rfl, hb2⟩; have kc := below_cells hb2; have kf := below_frozens hb2; have hbw := startw hb2; have y1 := sizew hb2; have zb := hb2.size)
    | (go_at_call 39; refine (specWithout_any cap id (h.here hbw) hl).mono ?_; rw [HL.out]; rintro e w3 ⟨g, c, rfl, hg0, hg1, f, hc, hb3⟩; have kc := fun b o h => (below_cells hb3 b o (Nat.lt_of_lt_of_le h zb)).trans (kc b o h); have kf := fun b o h => (below_frozens hb3 b o (Nat.lt_of_lt_of_le h zb)).trans (kf b o h); have hbw := below_step hbw hb3; have y1 := Nat.lt_of_lt_of_le y1 hb3.size))
  have c0 : w3.cell? ⟨w.heap.size, 0, none⟩ = some (.int .i64 now) := (kc _ _ (by simp; omega)).trans (by go_simp)
  have c1 : w3.cell? ⟨w.heap.size, 1, none⟩ = some (.slice a xs.length cap) := (kc _ _ (by simp; omega)).trans (by go_simp)
  have d0 : w3.cell? ⟨w.heap.size + 1, 0, none⟩ = some (.int .i64 0) := (kc _ _ (by simp)).trans (by go_simp)
  have d1 : w3.cell? ⟨w.heap.size + 1, 1, none⟩ = some (.slice none 0 0) := (kc _ _ (by simp)).trans (by go_simp)
  have fb : ∀ o : Nat, w3.frozen? ⟨w.heap.size + 1, o, none⟩ = false := fun o => (kf _ _ (by simp)).trans (by go_simp)
  have n0 : w.heap.size + 1 ≠ w.heap.size := by omega
  have n1 : w.heap.size ≠ w.heap.size + 1 := by omega
  have y0 : w.heap.size < w3.heap.size := by omega
  clear kc kf
  go_region_held3 (fun w' => w'.cell? ⟨w.heap.size, 0, none⟩ = some (.int .i64 now) ∧ w'.cell? ⟨w.heap.size, 1, none⟩ = some (.slice a xs.length cap)) (first | (refine ⟨?_, ?_⟩ <;> first | assumption | (simp only [World.cell?_drew]; assumption)) | go_keep)
    (fail)
  go_wp2
  refine bodyPost_ret (results_two rfl _ _ _ [.int .i64 now, .slice (some ⟨g, 0, none⟩) L.length c] rfl (cells_two (by go_simp) (by go_simp)) Try.underlying29 rfl (by kernel_rfl)) rfl ?_
  have hz : w.heap.size + 1 ≠ g := by omega
  have zb' : w.heap.size ≤ g := by omega
  exact ⟨_, _, _, rfl, .inl ⟨g, c, rfl, zb', by simp; exact hg1, (((f.far _ (by exact hz)).far _ (by exact hz)).mono (Below.refl _ _).drew (by simp; exact hg1)), hc⟩, by go_grown⟩
end Go.Proofs.Ytcmgaaopkhjelak
