/- What impl.Cancel answers. -/
import Derived.Test.YtdgefdjgpneanacImplOk
import Derived.Test.YtdgefdjgpneanacImplDel
namespace Go.Proofs.Ytdgefdjgpneanac
open Go.ChangeShapes Go.WideShapes Go.ChangeAt Go.RowKit
set_option linter.unusedVariables false
set_option linter.unusedSimpArgs false
set_option maxRecDepth 100000

set_option maxHeartbeats 2000000 in
theorem implCancel_no {w : World} {now : Int} {a : Option Addr} (cap : Nat) {xs : List (Int × Int)} (id : Int) (h : Smp w.heap.size w a xs) (hc : xs.length ≤ cap) (hn : a = none → cap = 0) (hl : (xs.length : Int) ≤ 9223372036854775807) (hW : ¬ WOk now xs) :
    Calls Try.prog 22 #[.agg #[.int .i64 now, .slice a xs.length cap], .int .i64 id] w (WheelPost w 0 [] false) := by
  go_enter Try.func22, Try.ntmps22
  go_wp2_with (first
    | (go_at_call 24; refine (implWheelOk_no cap (h.here (by go_grown)) hc hn hl hW).mono ?_; rintro e w2 ⟨rfl, hb2⟩; have kc := below_cells hb2; have kf := below_frozens hb2; have hbw := startw hb2; have y1 := sizew hb2))
  refine bodyPost_ret (results_two rfl _ _ _ [.int .i64 0, .slice none 0 0] rfl (set_two (u0 := .int .i64 0) (u1 := .slice none 0 0) _ _ ?_ ?_) Try.underlying36 rfl (by kernel_rfl)) rfl ?_
  · rw [kc _ _ (by simp)]; go_simp
  · rw [kc _ _ (by simp)]; go_simp
  · exact WheelPost.zero (by go_grown)
set_option maxHeartbeats 2000000 in
theorem implCancel_yes {w : World} {now : Int} {a : Option Addr} (cap : Nat) {xs : List (Int × Int)} (id : Int) (h : Smp w.heap.size w a xs) (hc : xs.length ≤ cap) (hn : a = none → cap = 0) (hW : WOk now xs) :
    Calls Try.prog 22 #[.agg #[.int .i64 now, .slice a xs.length cap], .int .i64 id] w (WheelPost w now (withoutOf id xs) (decide ((withoutOf id xs).length < xs.length))) := by
  have hl := hW.2.1
  have HW : Hid (WOk now xs) := hW
  clear hW
  obtain ⟨L, hL⟩ : ∃ L, withoutOf id xs = L := ⟨_, rfl⟩
  have hLl : L.length ≤ xs.length := hL ▸ without_le id xs
  have HL : Hid (withoutOf id xs = L) := hL
  have HLl : Hid (L.length ≤ xs.length) := hLl
  rw [hL]
  clear hL hLl
  go_enter Try.func22, Try.ntmps22
  go_wp2_with (first
    | (go_at_call 24; refine (implWheelOk_yes cap (h.here (by go_grown)) hc hn HW.out).mono ?_; rintro e w2 ⟨rfl, hb2⟩; have kc := below_cells hb2; have kf := below_frozens hb2; have hbw := startw hb2; have y1 := sizew hb2; have zb := hb2.size)
    | (go_at_call 71; refine (without_any now cap id (h.here hbw) (by omega)).mono ?_; rw [HL.out]; rintro e w3 ⟨v, rfl, hown, hb3⟩; obtain ⟨ua, uc, rfl⟩ := own_slice hown; have FF : Hid (FW w3 w2.heap.size (.slice ua L.length uc) L) := own_fv hown; clear hown; have kc := fun b o h => (below_cells hb3 b o (Nat.lt_of_lt_of_le h zb)).trans (kc b o h); have kf := fun b o h => (below_frozens hb3 b o (Nat.lt_of_lt_of_le h zb)).trans (kf b o h); have hbw := below_step hbw hb3; have y2 := hb3.size))
  have c0 : w3.cell? ⟨w.heap.size, 0, none⟩ = some (.int .i64 now) := (kc _ _ (by simp; omega)).trans (by go_simp)
  have c1 : w3.cell? ⟨w.heap.size, 1, none⟩ = some (.slice a xs.length cap) := (kc _ _ (by simp; omega)).trans (by go_simp)
  have d0 : w3.cell? ⟨w.heap.size + 1, 0, none⟩ = some (.int .i64 0) := (kc _ _ (by simp)).trans (by go_simp)
  have d1 : w3.cell? ⟨w.heap.size + 1, 1, none⟩ = some (.slice none 0 0) := (kc _ _ (by simp)).trans (by go_simp)
  have fb : ∀ o : Nat, w3.frozen? ⟨w.heap.size + 1, o, none⟩ = false := fun o => (kf _ _ (by simp)).trans (by go_simp)
  have n0 : w.heap.size + 1 ≠ w.heap.size := by omega
  have n1 : w.heap.size ≠ w.heap.size + 1 := by omega
  have y0 : w.heap.size < w3.heap.size := by omega
  clear kc kf
  go_region_held3 (fun w' => w'.cell? ⟨w.heap.size, 0, none⟩ = some (.int .i64 now) ∧ w'.cell? ⟨w.heap.size, 1, none⟩ = some (.slice a xs.length cap)) (first | (refine ⟨?_, ?_⟩ <;> first | assumption | (simp only [World.cell?_drew]; assumption)) | go_keep)
    (fail)
  go_wp2
  refine bodyPost_ret (results_two rfl _ _ _ [.int .i64 now, .slice ua L.length uc] rfl (cells_two (by go_simp) (by go_simp)) Try.underlying36 rfl (by kernel_rfl)) rfl ?_
  have f1 := FF.out.next (Below.refl _ w3).drew
  have og1 := (Only.refl (w.heap.size + 1) w3.drew).setCell (p := ⟨w.heap.size + 1, 0, none⟩) rfl (.int .i64 now)
  have og2 := og1.setCell (p := ⟨w.heap.size + 1, 1, none⟩) rfl (.slice ua L.length uc)
  exact ⟨_, _, _, rfl, (f1.lower (by omega)).onlyO (OnlyO.of_only og2) (fun g hg e => by have := (f1.own hg).1; injection e with e; omega), by go_grown⟩
end Go.Proofs.Ytdgefdjgpneanac
