/- Proved: whatever the bytes, the law FnProbes returns true (at the Probe and the numbers that the model draws of them impl's Observe, Pace, Cap and Gain answer as spec's do; what is observed stays right, its cap between four segments and the greatest window, its least round trip above 0, its best rate no less than the one seen, its state no earlier than it was but from the fourth, its pace at most the greatest rate), and the bytes read as before; no condition. -/
import Derived.Test.YtiibafphgjlffaeRows
import Derived.WalkKit
import Derived.ProofKit
import Derived.OpenShut
import Derived.ShutString
import Derived.ChangeOld
import Derived.Below
import Derived.Test.YtiibafphgjlffaeDraw12e
import Derived.Test.YtiibafphgjlffaeDrawLevel
import Derived.Test.YtiibafphgjlffaeLikePrb
import Derived.Test.YtiibafphgjlffaeObsLaw
import Derived.Deep.RegionHeld3
namespace Go.Proofs.Ytiibafphgjlffae.fnProbes
open Go.ChangeShapes Go.WideShapes Go.ChangeAt Go.RowKit
open Go.ChangeMaps (open_string shut_string)
set_option linter.unusedVariables false

theorem own : ownKnob Try.prog.godebug = none := by kernel_rfl
theorem laidOut : laidOutB Try.prog = true := by kernel_rfl

/-- WHAT THE WALK IS TOLD OF A SLICE OF INTEGERS THAT CAME IN: it is nil; or it leads to a row of 'cap' cells, the numbers 'zs' (the first 'len' are its elements, the rest its spare room), each fitting its kind. -/
def IsRow (k : IntKind) (w : World) (a : Option Addr) (len cap : Nat) (zs : List Int) : Prop :=
  (a = none ∧ len = 0 ∧ cap = 0 ∧ zs = []) ∨
  ∃ x, a = some x ∧ len ≤ cap ∧ cap ≤ maxLen ∧ zs.length = cap ∧ (∀ i, i < zs.length → w.cell? (x.add i) = some (.int k (zs.getD i 0))) ∧ ∀ n ∈ zs, (Lit.int k n).wf = true

set_option linter.unusedSimpArgs false
set_option linter.unusedVariables false
set_option maxRecDepth 100000
theorem row_of {w : World} {a : Option Addr} {len cap : Nat} {zs : List Int} (h : IsRow .u8 w a len cap zs) : Row w.heap.size a len w := by
  intro i hi
  rcases h with ⟨rfl, rfl, rfl, rfl⟩ | ⟨x, rfl, hl, hm, hz, hcell, hwz⟩
  · omega
  · obtain ⟨b, off, spot⟩ := x
    have hspot : spot = none := by simpa [Addr.add] using World.cell?_spot (hcell 0 (by omega))
    subst hspot
    have hc := hcell i (by omega)
    have hc' : w.cell? ⟨b, off + i, none⟩ = some (.int .u8 (zs.getD i 0)) := by
      by_cases h0 : i = 0
      · subst h0; simpa [Addr.add] using hc
      · simpa [Addr.add, h0] using hc
    have hlt : i < zs.length := by omega
    have hm : zs.getD i 0 ∈ zs := by simp [List.getD, List.getElem?_eq_getElem hlt]
    obtain ⟨z0, z1⟩ := bounds_u8 (hwz _ hm)
    exact ⟨b, off, zs.getD i 0, rfl, World.block_lt_of_cell? w _ hc', hc', z0, z1⟩

/-! ### STEP 1: THE WALK: the Go text returns true, AND WRITES NOTHING THAT WAS THERE: 'Below w.heap.size w w'' (Derived/Below.lean: '.refl', '.alloc', '.drew', '.setCell' at a new block, '.trans'). Open each 'IsRow' by 'rcases' AHEAD of 'go_enter'; part every test ahead of the walk. -/
set_option maxHeartbeats 16000000 in
theorem walk (a0 : Option Addr) (len0 cap0 : Nat) (z0 : List Int) (w : World) (w0 : IsRow .u8 w a0 len0 cap0 z0) :
    Calls Try.prog 8 #[.slice a0 len0 cap0] w fun e w' => e = .returned (.bool true) ∧ Below w.heap.size w w' := by
  have row := row_of w0
  by_cases hs : len0 ≤ 4096
  · go_enter Try.func8, Try.ntmps8
    go_upto_region 4 with (first
      | (go_at_call 41; refine (drawObserve_any cap0 hs row (Nat.le_refl _)).mono ?_; rintro e v1 ⟨⟨sa0, cy0, sn0, tp0, sv0, mt0, ta0⟩, aD, nD, cD, xD, now, rate, trip, flight, rfl, fvD, leD, hbw⟩; obtain ⟨eD, hcD, hnD⟩ := fv_len fvD; subst eD)
      | go_in)
    obtain ⟨v2, hv2⟩ : ∃ x, x = v1.alloc (.cells #[.int .i64 sa0, .int .i64 cy0, .int .i64 sn0, .int .i64 tp0, .int .i64 sv0, .slice aD xD.length cD, .int .i64 mt0, .int .i64 ta0] 53) := ⟨_, rfl⟩
    obtain ⟨b3, eb3⟩ : ∃ b, b = v1.heap.size := ⟨_, rfl⟩
    rw [← hv2, ← eb3]
    have yb3 : v1.heap.size ≤ b3 := by omega
    have ub3 : b3 < v2.heap.size := by rw [hv2, eb3]; simp
    have kv2 : Below v1.heap.size v1 v2 := by rw [hv2]; exact new_below _ _
    have DP : Hid (Pc v2 (b3) (⟨sa0, cy0, sn0, tp0, sv0, mt0, ta0⟩ : Pb) (.slice aD xD.length cD)) := by rw [hv2, eb3]; exact pc_new _ (⟨sa0, cy0, sn0, tp0, sv0, mt0, ta0⟩ : Pb) _ _
    clear hv2 eb3
    have hbw : Below w.heap.size w v2 := below_two hbw kv2
    have fvD := fvD.next kv2
    have p0 : v2.cell? ⟨b3, 0, none⟩ = some (.int .i64 sa0) := DP.out.c0
    have p1 : v2.cell? ⟨b3, 1, none⟩ = some (.int .i64 cy0) := DP.out.c1
    have p2 : v2.cell? ⟨b3, 2, none⟩ = some (.int .i64 sn0) := DP.out.c2
    have p3 : v2.cell? ⟨b3, 3, none⟩ = some (.int .i64 tp0) := DP.out.c3
    have p4 : v2.cell? ⟨b3, 4, none⟩ = some (.int .i64 sv0) := DP.out.c4
    have p5 : v2.cell? ⟨b3, 5, none⟩ = some (.slice aD xD.length cD) := DP.out.c5
    have p6 : v2.cell? ⟨b3, 6, none⟩ = some (.int .i64 mt0) := DP.out.c6
    have p7 : v2.cell? ⟨b3, 7, none⟩ = some (.int .i64 ta0) := DP.out.c7
    obtain ⟨yD, ⟨za, zc, zn, zt, zv, zm, zr⟩, hys, hyes, hno, hsp, him⟩ := observes sa0 cy0 sn0 tp0 sv0 mt0 ta0 now rate trip flight xD
    have HYES : Hid _ := hyes
    have HNO : Hid _ := hno
    have HSP : Hid (∀ (w : World) (a : Option Addr) (cap : Nat), Smp w.heap.size w a xD → Calls Try.prog 44 #[.agg #[.int .i64 sa0, .int .i64 cy0, .int .i64 sn0, .int .i64 tp0, .int .i64 sv0, .slice a xD.length cap, .int .i64 mt0, .int .i64 ta0], .int .i64 now, .int .i64 rate, .int .i64 trip, .int .i64 flight] w (AnsPost w yD ⟨za, zc, zn, zt, zv, zm, zr⟩)) := hsp
    have HIM : Hid (∀ (w : World) (a : Option Addr) (cap : Nat), Smp w.heap.size w a xD → xD.length ≤ cap → (a = none → cap = 0) → Calls Try.prog 42 #[.agg #[.int .i64 sa0, .int .i64 cy0, .int .i64 sn0, .int .i64 tp0, .int .i64 sv0, .slice a xD.length cap, .int .i64 mt0, .int .i64 ta0], .int .i64 now, .int .i64 rate, .int .i64 trip, .int .i64 flight] w (AnsPost w yD ⟨za, zc, zn, zt, zv, zm, zr⟩)) := him
    have HC : Hid (xD.length ≤ cD) := hcD
    have HN : Hid (aD = none → cD = 0) := hnD
    clear hsp him hyes hno hcD hnD
    obtain ⟨pv, hpv⟩ : ∃ f, paceAns sa0 cy0 sn0 tp0 sv0 mt0 ta0 xD = f := ⟨_, rfl⟩
    have Epv : Hid (paceAns sa0 cy0 sn0 tp0 sv0 mt0 ta0 xD = pv) := hpv
    have HspecPace : Hid (∀ (w : World) (a : Option Addr) (cap : Nat), Smp w.heap.size w a xD → Calls Try.prog 46 #[.agg #[.int .i64 sa0, .int .i64 cy0, .int .i64 sn0, .int .i64 tp0, .int .i64 sv0, .slice a xD.length cap, .int .i64 mt0, .int .i64 ta0]] w fun e w' => e = .returned (.int .i64 pv) ∧ Below w.heap.size w w') := fun w a cap smp => by rw [← hpv]; exact specPace_any cap smp
    have HimplPace : Hid (∀ (w : World) (a : Option Addr) (cap : Nat), Smp w.heap.size w a xD → Calls Try.prog 45 #[.agg #[.int .i64 sa0, .int .i64 cy0, .int .i64 sn0, .int .i64 tp0, .int .i64 sv0, .slice a xD.length cap, .int .i64 mt0, .int .i64 ta0]] w fun e w' => e = .returned (.int .i64 pv) ∧ Below w.heap.size w w') := fun w a cap smp => by rw [← hpv]; exact implPace_any cap smp
    clear hpv
    obtain ⟨cv, hcv⟩ : ∃ f, capAns sa0 cy0 sn0 tp0 sv0 mt0 ta0 xD = f := ⟨_, rfl⟩
    have Ecv : Hid (capAns sa0 cy0 sn0 tp0 sv0 mt0 ta0 xD = cv) := hcv
    have HspecCap : Hid (∀ (w : World) (a : Option Addr) (cap : Nat), Smp w.heap.size w a xD → Calls Try.prog 48 #[.agg #[.int .i64 sa0, .int .i64 cy0, .int .i64 sn0, .int .i64 tp0, .int .i64 sv0, .slice a xD.length cap, .int .i64 mt0, .int .i64 ta0]] w fun e w' => e = .returned (.int .i64 cv) ∧ Below w.heap.size w w') := fun w a cap smp => by rw [← hcv]; exact specCap_any cap smp
    have HimplCap : Hid (∀ (w : World) (a : Option Addr) (cap : Nat), Smp w.heap.size w a xD → Calls Try.prog 47 #[.agg #[.int .i64 sa0, .int .i64 cy0, .int .i64 sn0, .int .i64 tp0, .int .i64 sv0, .slice a xD.length cap, .int .i64 mt0, .int .i64 ta0]] w fun e w' => e = .returned (.int .i64 cv) ∧ Below w.heap.size w w') := fun w a cap smp => by rw [← hcv]; exact implCap_any cap smp
    clear hcv
    obtain ⟨gv, hgv⟩ : ∃ f, gainAns sa0 cy0 sn0 tp0 sv0 mt0 ta0 xD = f := ⟨_, rfl⟩
    have Egv : Hid (gainAns sa0 cy0 sn0 tp0 sv0 mt0 ta0 xD = gv) := hgv
    have HspecGain : Hid (∀ (w : World) (a : Option Addr) (cap : Nat), Smp w.heap.size w a xD → Calls Try.prog 50 #[.agg #[.int .i64 sa0, .int .i64 cy0, .int .i64 sn0, .int .i64 tp0, .int .i64 sv0, .slice a xD.length cap, .int .i64 mt0, .int .i64 ta0]] w fun e w' => e = .returned (.int .i64 gv) ∧ Below w.heap.size w w') := fun w a cap smp => by rw [← hgv]; exact specGain_any cap smp
    have HimplGain : Hid (∀ (w : World) (a : Option Addr) (cap : Nat), Smp w.heap.size w a xD → Calls Try.prog 49 #[.agg #[.int .i64 sa0, .int .i64 cy0, .int .i64 sn0, .int .i64 tp0, .int .i64 sv0, .slice a xD.length cap, .int .i64 mt0, .int .i64 ta0]] w fun e w' => e = .returned (.int .i64 gv) ∧ Below w.heap.size w w') := fun w a cap smp => by rw [← hgv]; exact implGain_any cap smp
    clear hgv
    go_upto_region 5 with (first
      | (go_at_call 42; refine (HIM.out _ _ _ fvD.smp.2 HC.out HN.out).mono ?_; rintro e v3 ⟨a8, n8, c8, rfl, fv8, hb3⟩; obtain ⟨e8, hc8, hn8⟩ := fv_len fv8; subst e8; clear hc8 hn8; have hbw : Below w.heap.size w v3 := below_two hbw hb3; clear p0 p1 p2 p3 p4 p5 p6 p7; have DP : Hid (Pc v3 (b3) (⟨sa0, cy0, sn0, tp0, sv0, mt0, ta0⟩ : Pb) (.slice aD xD.length cD)) := DP.out.next hb3; have p0 : v3.cell? ⟨b3, 0, none⟩ = some (.int .i64 sa0) := DP.out.c0; have p1 : v3.cell? ⟨b3, 1, none⟩ = some (.int .i64 cy0) := DP.out.c1; have p2 : v3.cell? ⟨b3, 2, none⟩ = some (.int .i64 sn0) := DP.out.c2; have p3 : v3.cell? ⟨b3, 3, none⟩ = some (.int .i64 tp0) := DP.out.c3; have p4 : v3.cell? ⟨b3, 4, none⟩ = some (.int .i64 sv0) := DP.out.c4; have p5 : v3.cell? ⟨b3, 5, none⟩ = some (.slice aD xD.length cD) := DP.out.c5; have p6 : v3.cell? ⟨b3, 6, none⟩ = some (.int .i64 mt0) := DP.out.c6; have p7 : v3.cell? ⟨b3, 7, none⟩ = some (.int .i64 ta0) := DP.out.c7; have fvD := fvD.next hb3))
    obtain ⟨v4, hv4⟩ : ∃ x, x = v3.alloc (.cells #[.int .i64 za, .int .i64 zc, .int .i64 zn, .int .i64 zt, .int .i64 zv, .slice a8 yD.length c8, .int .i64 zm, .int .i64 zr] 53) := ⟨_, rfl⟩
    obtain ⟨b8, eb8⟩ : ∃ b, b = v3.heap.size := ⟨_, rfl⟩
    rw [← hv4, ← eb8]
    have yb8 : v3.heap.size ≤ b8 := by omega
    have ub8 : b8 < v4.heap.size := by rw [hv4, eb8]; simp
    have kv4 : Below v3.heap.size v3 v4 := by rw [hv4]; exact new_below _ _
    have DO : Hid (Pc v4 (b8) (⟨za, zc, zn, zt, zv, zm, zr⟩ : Pb) (.slice a8 yD.length c8)) := by rw [hv4, eb8]; exact pc_new _ (⟨za, zc, zn, zt, zv, zm, zr⟩ : Pb) _ _
    clear hv4 eb8
    have hbw : Below w.heap.size w v4 := below_two hbw kv4; clear p0 p1 p2 p3 p4 p5 p6 p7
    have DP : Hid (Pc v4 (b3) (⟨sa0, cy0, sn0, tp0, sv0, mt0, ta0⟩ : Pb) (.slice aD xD.length cD)) := DP.out.next kv4
    have p0 : v4.cell? ⟨b3, 0, none⟩ = some (.int .i64 sa0) := DP.out.c0
    have p1 : v4.cell? ⟨b3, 1, none⟩ = some (.int .i64 cy0) := DP.out.c1
    have p2 : v4.cell? ⟨b3, 2, none⟩ = some (.int .i64 sn0) := DP.out.c2
    have p3 : v4.cell? ⟨b3, 3, none⟩ = some (.int .i64 tp0) := DP.out.c3
    have p4 : v4.cell? ⟨b3, 4, none⟩ = some (.int .i64 sv0) := DP.out.c4
    have p5 : v4.cell? ⟨b3, 5, none⟩ = some (.slice aD xD.length cD) := DP.out.c5
    have p6 : v4.cell? ⟨b3, 6, none⟩ = some (.int .i64 mt0) := DP.out.c6
    have p7 : v4.cell? ⟨b3, 7, none⟩ = some (.int .i64 ta0) := DP.out.c7
    have fvD := fvD.next kv4
    have fv8 := fv8.next kv4
    have o0 : v4.cell? ⟨b8, 0, none⟩ = some (.int .i64 za) := DO.out.c0
    have o1 : v4.cell? ⟨b8, 1, none⟩ = some (.int .i64 zc) := DO.out.c1
    have o2 : v4.cell? ⟨b8, 2, none⟩ = some (.int .i64 zn) := DO.out.c2
    have o3 : v4.cell? ⟨b8, 3, none⟩ = some (.int .i64 zt) := DO.out.c3
    have o4 : v4.cell? ⟨b8, 4, none⟩ = some (.int .i64 zv) := DO.out.c4
    have o5 : v4.cell? ⟨b8, 5, none⟩ = some (.slice a8 yD.length c8) := DO.out.c5
    have o6 : v4.cell? ⟨b8, 6, none⟩ = some (.int .i64 zm) := DO.out.c6
    have o7 : v4.cell? ⟨b8, 7, none⟩ = some (.int .i64 zr) := DO.out.c7
    have HS : Hid (∀ w', Below v4.heap.size v4 w' → (fun w' => w'.cell? ⟨b3, 0, none⟩ = some (.int .i64 sa0) ∧ w'.cell? ⟨b3, 1, none⟩ = some (.int .i64 cy0) ∧ w'.cell? ⟨b3, 2, none⟩ = some (.int .i64 sn0) ∧ w'.cell? ⟨b3, 3, none⟩ = some (.int .i64 tp0) ∧ w'.cell? ⟨b3, 4, none⟩ = some (.int .i64 sv0) ∧ w'.cell? ⟨b3, 5, none⟩ = some (.slice aD xD.length cD) ∧ w'.cell? ⟨b3, 6, none⟩ = some (.int .i64 mt0) ∧ w'.cell? ⟨b3, 7, none⟩ = some (.int .i64 ta0) ∧ w'.cell? ⟨b8, 0, none⟩ = some (.int .i64 za) ∧ w'.cell? ⟨b8, 1, none⟩ = some (.int .i64 zc) ∧ w'.cell? ⟨b8, 2, none⟩ = some (.int .i64 zn) ∧ w'.cell? ⟨b8, 3, none⟩ = some (.int .i64 zt) ∧ w'.cell? ⟨b8, 4, none⟩ = some (.int .i64 zv) ∧ w'.cell? ⟨b8, 5, none⟩ = some (.slice a8 yD.length c8) ∧ w'.cell? ⟨b8, 6, none⟩ = some (.int .i64 zm) ∧ w'.cell? ⟨b8, 7, none⟩ = some (.int .i64 zr)) w') := fun w' h => ⟨(DP.out.next h).c0, (DP.out.next h).c1, (DP.out.next h).c2, (DP.out.next h).c3, (DP.out.next h).c4, (DP.out.next h).c5, (DP.out.next h).c6, (DP.out.next h).c7, (DO.out.next h).c0, (DO.out.next h).c1, (DO.out.next h).c2, (DO.out.next h).c3, (DO.out.next h).c4, (DO.out.next h).c5, (DO.out.next h).c6, (DO.out.next h).c7⟩
    have hr : Below v4.heap.size v4 v4.drew := (Below.refl _ _).drew
    refine wp_region_held_drew (S := fun w' => w'.cell? ⟨b3, 0, none⟩ = some (.int .i64 sa0) ∧ w'.cell? ⟨b3, 1, none⟩ = some (.int .i64 cy0) ∧ w'.cell? ⟨b3, 2, none⟩ = some (.int .i64 sn0) ∧ w'.cell? ⟨b3, 3, none⟩ = some (.int .i64 tp0) ∧ w'.cell? ⟨b3, 4, none⟩ = some (.int .i64 sv0) ∧ w'.cell? ⟨b3, 5, none⟩ = some (.slice aD xD.length cD) ∧ w'.cell? ⟨b3, 6, none⟩ = some (.int .i64 mt0) ∧ w'.cell? ⟨b3, 7, none⟩ = some (.int .i64 ta0) ∧ w'.cell? ⟨b8, 0, none⟩ = some (.int .i64 za) ∧ w'.cell? ⟨b8, 1, none⟩ = some (.int .i64 zc) ∧ w'.cell? ⟨b8, 2, none⟩ = some (.int .i64 zn) ∧ w'.cell? ⟨b8, 3, none⟩ = some (.int .i64 zt) ∧ w'.cell? ⟨b8, 4, none⟩ = some (.int .i64 zv) ∧ w'.cell? ⟨b8, 5, none⟩ = some (.slice a8 yD.length c8) ∧ w'.cell? ⟨b8, 6, none⟩ = some (.int .i64 zm) ∧ w'.cell? ⟨b8, 7, none⟩ = some (.int .i64 zr)) (by kernel_rfl) (HS.out _ hr) (fun hS => ?_)
    refine wpAnyH_take (i := 0) (v := ?_) rfl (by kernel_rfl) (by kernel_rfl) (by kernel_rfl) (fun _ _ _ h => h) (Or.inl ⟨by rfl, ?_⟩) (by assumption) ?_
    rotate_left 1
    · (intro w' hSw; (try dsimp only at hSw); go_simp; try with_reducible rfl)
    try simp only [Act.put, List.setIfInBounds_toArray, List.set_cons_zero, List.set_cons_succ, List.getElem_toArray, List.getElem_cons_succ, List.getElem_cons_zero]
    refine wpAnyH_take (i := 1) (v := ?_) rfl (by kernel_rfl) (by kernel_rfl) (by kernel_rfl) (fun _ _ _ h => h) (Or.inl ⟨by rfl, ?_⟩) (by assumption) ?_
    rotate_left 1
    · (intro w' hSw; (try dsimp only at hSw); go_simp; try with_reducible rfl)
    try simp only [Act.put, List.setIfInBounds_toArray, List.set_cons_zero, List.set_cons_succ, List.getElem_toArray, List.getElem_cons_succ, List.getElem_cons_zero]
    refine wpAnyH_take (i := 2) (v := ?_) rfl (by kernel_rfl) (by kernel_rfl) (by kernel_rfl) (fun _ _ _ h => h) (Or.inl ⟨by rfl, ?_⟩) (by assumption) ?_
    rotate_left 1
    · (intro w' hSw; (try dsimp only at hSw); go_simp; try with_reducible rfl)
    try simp only [Act.put, List.setIfInBounds_toArray, List.set_cons_zero, List.set_cons_succ, List.getElem_toArray, List.getElem_cons_succ, List.getElem_cons_zero]
    refine wpAnyH_take (i := 3) (v := ?_) rfl (by kernel_rfl) (by kernel_rfl) (by kernel_rfl) (fun _ _ _ h => h) (Or.inl ⟨by rfl, ?_⟩) (by assumption) ?_
    rotate_left 1
    · (intro w' hSw; (try dsimp only at hSw); go_simp; try with_reducible rfl)
    try simp only [Act.put, List.setIfInBounds_toArray, List.set_cons_zero, List.set_cons_succ, List.getElem_toArray, List.getElem_cons_succ, List.getElem_cons_zero]
    refine wpAnyH_take (i := 4) (v := ?_) rfl (by kernel_rfl) (by kernel_rfl) (by kernel_rfl) (fun _ _ _ h => h) (Or.inl ⟨by rfl, ?_⟩) (by assumption) ?_
    rotate_left 1
    · (intro w' hSw; (try dsimp only at hSw); go_simp; try with_reducible rfl)
    try simp only [Act.put, List.setIfInBounds_toArray, List.set_cons_zero, List.set_cons_succ, List.getElem_toArray, List.getElem_cons_succ, List.getElem_cons_zero]
    refine wpAnyH_take (i := 5) (v := ?_) rfl (by kernel_rfl) (by kernel_rfl) (by kernel_rfl) (fun _ _ _ h => h) (Or.inl ⟨by rfl, ?_⟩) (by assumption) ?_
    rotate_left 1
    · (intro w' hSw; (try dsimp only at hSw); go_simp; try with_reducible rfl)
    try simp only [Act.put, List.setIfInBounds_toArray, List.set_cons_zero, List.set_cons_succ, List.getElem_toArray, List.getElem_cons_succ, List.getElem_cons_zero]
    refine wpAnyH_ready (rs := [6]) (by kernel_rfl) (by simp) (AllReadyH.cons rfl (fun K hK => ?_) AllReadyH.nil)
    go_simp
    (refine (HSP.out _ _ _ (fvD.next hr).smp.2).mono ?_; rintro e u1 ⟨aS, nS, cS, rfl, fvS, hbq⟩; have hr := hr.trans (hbq.mono hr.size); have hSq := HS.out _ hr)
    refine hK.out _ _ (by assumption) (fun _ => ?_)
    try simp only [Act.put, List.setIfInBounds_toArray, List.set_cons_zero, List.set_cons_succ, List.getElem_toArray, List.getElem_cons_succ, List.getElem_cons_zero]
    refine wpAnyH_ready (rs := [7]) (by kernel_rfl) (by simp) (AllReadyH.cons rfl (fun K hK => ?_) AllReadyH.nil)
    go_simp
    (refine (likeProbe_same (fv8.next hr) fvS (by omega)).mono ?_; rintro e u2 ⟨rfl, hbq⟩; have hr := hr.trans (hbq.mono hr.size); have hSq := HS.out _ hr)
    refine hK.out _ _ (by assumption) (fun _ => ?_)
    try simp only [Act.put, List.setIfInBounds_toArray, List.set_cons_zero, List.set_cons_succ, List.getElem_toArray, List.getElem_cons_succ, List.getElem_cons_zero]
    refine wpAnyH_take (i := 8) (v := ?_) rfl (by kernel_rfl) (by kernel_rfl) (by kernel_rfl) (fun _ _ _ h => h) (Or.inl ⟨by rfl, ?_⟩) (by assumption) ?_
    rotate_left 1
    · (intro w' hSw; (try dsimp only at hSw); go_simp; try with_reducible rfl)
    try simp only [Act.put, List.setIfInBounds_toArray, List.set_cons_zero, List.set_cons_succ, List.getElem_toArray, List.getElem_cons_succ, List.getElem_cons_zero]
    refine wpAnyH_take (i := 9) (v := ?_) rfl (by kernel_rfl) (by kernel_rfl) (by kernel_rfl) (fun _ _ _ h => h) (Or.inl ⟨by rfl, ?_⟩) (by assumption) ?_
    rotate_left 1
    · (intro w' hSw; (try dsimp only at hSw); go_simp; try with_reducible rfl)
    try simp only [Act.put, List.setIfInBounds_toArray, List.set_cons_zero, List.set_cons_succ, List.getElem_toArray, List.getElem_cons_succ, List.getElem_cons_zero]
    refine wpAnyH_take (i := 10) (v := ?_) rfl (by kernel_rfl) (by kernel_rfl) (by kernel_rfl) (fun _ _ _ h => h) (Or.inl ⟨by rfl, ?_⟩) (by assumption) ?_
    rotate_left 1
    · (intro w' hSw; (try dsimp only at hSw); go_simp; try with_reducible rfl)
    try simp only [Act.put, List.setIfInBounds_toArray, List.set_cons_zero, List.set_cons_succ, List.getElem_toArray, List.getElem_cons_succ, List.getElem_cons_zero]
    refine wpAnyH_take (i := 12) (v := ?_) rfl (by kernel_rfl) (by kernel_rfl) (by kernel_rfl) (fun _ _ _ h => h) (Or.inl ⟨by rfl, ?_⟩) (by assumption) ?_
    rotate_left 1
    · (intro w' hSw; (try dsimp only at hSw); go_simp; try with_reducible rfl)
    try simp only [Act.put, List.setIfInBounds_toArray, List.set_cons_zero, List.set_cons_succ, List.getElem_toArray, List.getElem_cons_succ, List.getElem_cons_zero]
    refine wpAnyH_ready (rs := [11]) (by kernel_rfl) (by simp) (AllReadyH.cons rfl (fun K hK => ?_) AllReadyH.nil)
    go_simp
    (refine (HimplPace.out _ _ _ (fvD.next hr).smp.2).mono ?_; rintro e u3 ⟨rfl, hbq⟩; have hr := hr.trans (hbq.mono hr.size); have hSq := HS.out _ hr)
    refine hK.out _ _ (by assumption) (fun _ => ?_)
    try simp only [Act.put, List.setIfInBounds_toArray, List.set_cons_zero, List.set_cons_succ, List.getElem_toArray, List.getElem_cons_succ, List.getElem_cons_zero]
    refine wpAnyH_ready (rs := [13]) (by kernel_rfl) (by simp) (AllReadyH.cons rfl (fun K hK => ?_) AllReadyH.nil)
    go_simp
    (refine (HspecPace.out _ _ _ (fvD.next hr).smp.2).mono ?_; rintro e u4 ⟨rfl, hbq⟩; have hr := hr.trans (hbq.mono hr.size); have hSq := HS.out _ hr)
    refine hK.out _ _ (by assumption) (fun _ => ?_)
    try simp only [Act.put, List.setIfInBounds_toArray, List.set_cons_zero, List.set_cons_succ, List.getElem_toArray, List.getElem_cons_succ, List.getElem_cons_zero]
    refine wpAnyH_take (i := 14) (v := ?_) rfl (by kernel_rfl) (by kernel_rfl) (by kernel_rfl) (fun _ _ _ h => h) (Or.inl ⟨by rfl, ?_⟩) (by assumption) ?_
    rotate_left 1
    · (intro w' hSw; (try dsimp only at hSw); go_simp; try with_reducible rfl)
    try simp only [Act.put, List.setIfInBounds_toArray, List.set_cons_zero, List.set_cons_succ, List.getElem_toArray, List.getElem_cons_succ, List.getElem_cons_zero]
    refine wpAnyH_take (i := 15) (v := ?_) rfl (by kernel_rfl) (by kernel_rfl) (by kernel_rfl) (fun _ _ _ h => h) (Or.inl ⟨by rfl, ?_⟩) (by assumption) ?_
    rotate_left 1
    · (intro w' hSw; (try dsimp only at hSw); go_simp; try with_reducible rfl)
    try simp only [Act.put, List.setIfInBounds_toArray, List.set_cons_zero, List.set_cons_succ, List.getElem_toArray, List.getElem_cons_succ, List.getElem_cons_zero]
    refine wpAnyH_take (i := 16) (v := ?_) rfl (by kernel_rfl) (by kernel_rfl) (by kernel_rfl) (fun _ _ _ h => h) (Or.inl ⟨by rfl, ?_⟩) (by assumption) ?_
    rotate_left 1
    · (intro w' hSw; (try dsimp only at hSw); go_simp; try with_reducible rfl)
    try simp only [Act.put, List.setIfInBounds_toArray, List.set_cons_zero, List.set_cons_succ, List.getElem_toArray, List.getElem_cons_succ, List.getElem_cons_zero]
    refine wpAnyH_take (i := 17) (v := ?_) rfl (by kernel_rfl) (by kernel_rfl) (by kernel_rfl) (fun _ _ _ h => h) (Or.inl ⟨by rfl, ?_⟩) (by assumption) ?_
    rotate_left 1
    · (intro w' hSw; (try dsimp only at hSw); go_simp; try with_reducible rfl)
    try simp only [Act.put, List.setIfInBounds_toArray, List.set_cons_zero, List.set_cons_succ, List.getElem_toArray, List.getElem_cons_succ, List.getElem_cons_zero]
    refine wpAnyH_take (i := 19) (v := ?_) rfl (by kernel_rfl) (by kernel_rfl) (by kernel_rfl) (fun _ _ _ h => h) (Or.inl ⟨by rfl, ?_⟩) (by assumption) ?_
    rotate_left 1
    · (intro w' hSw; (try dsimp only at hSw); go_simp; try with_reducible rfl)
    try simp only [Act.put, List.setIfInBounds_toArray, List.set_cons_zero, List.set_cons_succ, List.getElem_toArray, List.getElem_cons_succ, List.getElem_cons_zero]
    refine wpAnyH_ready (rs := [18]) (by kernel_rfl) (by simp) (AllReadyH.cons rfl (fun K hK => ?_) AllReadyH.nil)
    go_simp
    (refine (HimplCap.out _ _ _ (fvD.next hr).smp.2).mono ?_; rintro e u5 ⟨rfl, hbq⟩; have hr := hr.trans (hbq.mono hr.size); have hSq := HS.out _ hr)
    refine hK.out _ _ (by assumption) (fun _ => ?_)
    try simp only [Act.put, List.setIfInBounds_toArray, List.set_cons_zero, List.set_cons_succ, List.getElem_toArray, List.getElem_cons_succ, List.getElem_cons_zero]
    refine wpAnyH_ready (rs := [20]) (by kernel_rfl) (by simp) (AllReadyH.cons rfl (fun K hK => ?_) AllReadyH.nil)
    go_simp
    (refine (HspecCap.out _ _ _ (fvD.next hr).smp.2).mono ?_; rintro e u6 ⟨rfl, hbq⟩; have hr := hr.trans (hbq.mono hr.size); have hSq := HS.out _ hr)
    refine hK.out _ _ (by assumption) (fun _ => ?_)
    try simp only [Act.put, List.setIfInBounds_toArray, List.set_cons_zero, List.set_cons_succ, List.getElem_toArray, List.getElem_cons_succ, List.getElem_cons_zero]
    refine wpAnyH_take (i := 21) (v := ?_) rfl (by kernel_rfl) (by kernel_rfl) (by kernel_rfl) (fun _ _ _ h => h) (Or.inl ⟨by rfl, ?_⟩) (by assumption) ?_
    rotate_left 1
    · (intro w' hSw; (try dsimp only at hSw); go_simp; try with_reducible rfl)
    try simp only [Act.put, List.setIfInBounds_toArray, List.set_cons_zero, List.set_cons_succ, List.getElem_toArray, List.getElem_cons_succ, List.getElem_cons_zero]
    refine wpAnyH_take (i := 22) (v := ?_) rfl (by kernel_rfl) (by kernel_rfl) (by kernel_rfl) (fun _ _ _ h => h) (Or.inl ⟨by rfl, ?_⟩) (by assumption) ?_
    rotate_left 1
    · (intro w' hSw; (try dsimp only at hSw); go_simp; try with_reducible rfl)
    try simp only [Act.put, List.setIfInBounds_toArray, List.set_cons_zero, List.set_cons_succ, List.getElem_toArray, List.getElem_cons_succ, List.getElem_cons_zero]
    refine wpAnyH_take (i := 23) (v := ?_) rfl (by kernel_rfl) (by kernel_rfl) (by kernel_rfl) (fun _ _ _ h => h) (Or.inl ⟨by rfl, ?_⟩) (by assumption) ?_
    rotate_left 1
    · (intro w' hSw; (try dsimp only at hSw); go_simp; try with_reducible rfl)
    try simp only [Act.put, List.setIfInBounds_toArray, List.set_cons_zero, List.set_cons_succ, List.getElem_toArray, List.getElem_cons_succ, List.getElem_cons_zero]
    refine wpAnyH_take (i := 24) (v := ?_) rfl (by kernel_rfl) (by kernel_rfl) (by kernel_rfl) (fun _ _ _ h => h) (Or.inl ⟨by rfl, ?_⟩) (by assumption) ?_
    rotate_left 1
    · (intro w' hSw; (try dsimp only at hSw); go_simp; try with_reducible rfl)
    try simp only [Act.put, List.setIfInBounds_toArray, List.set_cons_zero, List.set_cons_succ, List.getElem_toArray, List.getElem_cons_succ, List.getElem_cons_zero]
    refine wpAnyH_take (i := 26) (v := ?_) rfl (by kernel_rfl) (by kernel_rfl) (by kernel_rfl) (fun _ _ _ h => h) (Or.inl ⟨by rfl, ?_⟩) (by assumption) ?_
    rotate_left 1
    · (intro w' hSw; (try dsimp only at hSw); go_simp; try with_reducible rfl)
    try simp only [Act.put, List.setIfInBounds_toArray, List.set_cons_zero, List.set_cons_succ, List.getElem_toArray, List.getElem_cons_succ, List.getElem_cons_zero]
    refine wpAnyH_ready (rs := [25]) (by kernel_rfl) (by simp) (AllReadyH.cons rfl (fun K hK => ?_) AllReadyH.nil)
    go_simp
    (refine (HimplGain.out _ _ _ (fvD.next hr).smp.2).mono ?_; rintro e u7 ⟨rfl, hbq⟩; have hr := hr.trans (hbq.mono hr.size); have hSq := HS.out _ hr)
    refine hK.out _ _ (by assumption) (fun _ => ?_)
    try simp only [Act.put, List.setIfInBounds_toArray, List.set_cons_zero, List.set_cons_succ, List.getElem_toArray, List.getElem_cons_succ, List.getElem_cons_zero]
    refine wpAnyH_ready (rs := [27]) (by kernel_rfl) (by simp) (AllReadyH.cons rfl (fun K hK => ?_) AllReadyH.nil)
    go_simp
    (refine (HspecGain.out _ _ _ (fvD.next hr).smp.2).mono ?_; rintro e u8 ⟨rfl, hbq⟩; have hr := hr.trans (hbq.mono hr.size); have hSq := HS.out _ hr)
    refine hK.out _ _ (by assumption) (fun _ => ?_)
    try simp only [Act.put, List.setIfInBounds_toArray, List.set_cons_zero, List.set_cons_succ, List.getElem_toArray, List.getElem_cons_succ, List.getElem_cons_zero]
    refine wpAnyH_take (i := 28) (v := ?_) rfl (by kernel_rfl) (by kernel_rfl) (by kernel_rfl) (fun _ _ _ h => h) (Or.inl ⟨by rfl, ?_⟩) (by assumption) ?_
    rotate_left 1
    · (intro w' hSw; (try dsimp only at hSw); go_simp; try with_reducible rfl)
    try simp only [Act.put, List.setIfInBounds_toArray, List.set_cons_zero, List.set_cons_succ, List.getElem_toArray, List.getElem_cons_succ, List.getElem_cons_zero]
    refine wpAnyH_take (i := 29) (v := ?_) rfl (by kernel_rfl) (by kernel_rfl) (by kernel_rfl) (fun _ _ _ h => h) (Or.inl ⟨by rfl, ?_⟩) (by assumption) ?_
    rotate_left 1
    · (intro w' hSw; (try dsimp only at hSw); go_simp; try with_reducible rfl)
    try simp only [Act.put, List.setIfInBounds_toArray, List.set_cons_zero, List.set_cons_succ, List.getElem_toArray, List.getElem_cons_succ, List.getElem_cons_zero]
    refine wpAnyH_done (by kernel_rfl) ?_ _
    have hbw : Below w.heap.size w u8 := below_two hbw hr
    clear p0 p1 p2 p3 p4 p5 p6 p7
    have DP : Hid (Pc u8 (b3) (⟨sa0, cy0, sn0, tp0, sv0, mt0, ta0⟩ : Pb) (.slice aD xD.length cD)) := DP.out.next hr
    have p0 : u8.cell? ⟨b3, 0, none⟩ = some (.int .i64 sa0) := DP.out.c0
    have p1 : u8.cell? ⟨b3, 1, none⟩ = some (.int .i64 cy0) := DP.out.c1
    have p2 : u8.cell? ⟨b3, 2, none⟩ = some (.int .i64 sn0) := DP.out.c2
    have p3 : u8.cell? ⟨b3, 3, none⟩ = some (.int .i64 tp0) := DP.out.c3
    have p4 : u8.cell? ⟨b3, 4, none⟩ = some (.int .i64 sv0) := DP.out.c4
    have p5 : u8.cell? ⟨b3, 5, none⟩ = some (.slice aD xD.length cD) := DP.out.c5
    have p6 : u8.cell? ⟨b3, 6, none⟩ = some (.int .i64 mt0) := DP.out.c6
    have p7 : u8.cell? ⟨b3, 7, none⟩ = some (.int .i64 ta0) := DP.out.c7
    clear o0 o1 o2 o3 o4 o5 o6 o7
    have DO : Hid (Pc u8 (b8) (⟨za, zc, zn, zt, zv, zm, zr⟩ : Pb) (.slice a8 yD.length c8)) := DO.out.next hr
    have o0 : u8.cell? ⟨b8, 0, none⟩ = some (.int .i64 za) := DO.out.c0
    have o1 : u8.cell? ⟨b8, 1, none⟩ = some (.int .i64 zc) := DO.out.c1
    have o2 : u8.cell? ⟨b8, 2, none⟩ = some (.int .i64 zn) := DO.out.c2
    have o3 : u8.cell? ⟨b8, 3, none⟩ = some (.int .i64 zt) := DO.out.c3
    have o4 : u8.cell? ⟨b8, 4, none⟩ = some (.int .i64 zv) := DO.out.c4
    have o5 : u8.cell? ⟨b8, 5, none⟩ = some (.slice a8 yD.length c8) := DO.out.c5
    have o6 : u8.cell? ⟨b8, 6, none⟩ = some (.int .i64 zm) := DO.out.c6
    have o7 : u8.cell? ⟨b8, 7, none⟩ = some (.int .i64 zr) := DO.out.c7
    have fvD := fvD.next hr
    have fv8 := fv8.next hr
    clear hr hSq HS fvS HSP HIM HspecPace HspecCap HspecGain HimplPace HimplGain
    cases hp : pokB sa0 cy0 sn0 tp0 sv0 mt0 ta0 xD
    · have hk : ¬ ObOk sa0 cy0 sn0 tp0 sv0 mt0 ta0 now rate trip flight xD := fun k => by have k1 := k.1; rw [hp] at k1; cases k1
      obtain ⟨ey, es⟩ := HNO.out hk
      injection es with q0 q1 q2 q3 q4 q5 q6
      subst ey q0 q1 q2 q3 q4 q5 q6
      have hcv : cv = 0 := Ecv.out.symm.trans (cap_none hp)
      subst hcv
      clear HYES HNO hk Ecv Epv Egv
      go_wp2_with (first
        | (go_at_call 51; refine (specProbeOk_is cD hp fvD.smp.2).mono ?_; rintro e v5 ⟨rfl, hb5⟩; have hbw : Below w.heap.size w v5 := below_two hbw hb5; clear p0 p1 p2 p3 p4 p5 p6 p7; have DP : Hid (Pc v5 (b3) (⟨sa0, cy0, sn0, tp0, sv0, mt0, ta0⟩ : Pb) (.slice aD xD.length cD)) := DP.out.next hb5; have p0 : v5.cell? ⟨b3, 0, none⟩ = some (.int .i64 sa0) := DP.out.c0; have p1 : v5.cell? ⟨b3, 1, none⟩ = some (.int .i64 cy0) := DP.out.c1; have p2 : v5.cell? ⟨b3, 2, none⟩ = some (.int .i64 sn0) := DP.out.c2; have p3 : v5.cell? ⟨b3, 3, none⟩ = some (.int .i64 tp0) := DP.out.c3; have p4 : v5.cell? ⟨b3, 4, none⟩ = some (.int .i64 sv0) := DP.out.c4; have p5 : v5.cell? ⟨b3, 5, none⟩ = some (.slice aD xD.length cD) := DP.out.c5; have p6 : v5.cell? ⟨b3, 6, none⟩ = some (.int .i64 mt0) := DP.out.c6; have p7 : v5.cell? ⟨b3, 7, none⟩ = some (.int .i64 ta0) := DP.out.c7; clear o0 o1 o2 o3 o4 o5 o6 o7; have DO : Hid (Pc v5 (b8) (⟨0, 0, 0, 0, 0, 0, 0⟩ : Pb) (.slice a8 ([] : List (Int × Int)).length c8)) := DO.out.next hb5; have o0 : v5.cell? ⟨b8, 0, none⟩ = some (.int .i64 0) := DO.out.c0; have o1 : v5.cell? ⟨b8, 1, none⟩ = some (.int .i64 0) := DO.out.c1; have o2 : v5.cell? ⟨b8, 2, none⟩ = some (.int .i64 0) := DO.out.c2; have o3 : v5.cell? ⟨b8, 3, none⟩ = some (.int .i64 0) := DO.out.c3; have o4 : v5.cell? ⟨b8, 4, none⟩ = some (.int .i64 0) := DO.out.c4; have o5 : v5.cell? ⟨b8, 5, none⟩ = some (.slice a8 ([] : List (Int × Int)).length c8) := DO.out.c5; have o6 : v5.cell? ⟨b8, 6, none⟩ = some (.int .i64 0) := DO.out.c6; have o7 : v5.cell? ⟨b8, 7, none⟩ = some (.int .i64 0) := DO.out.c7; have fvD := fvD.next hb5; have fv8 := fv8.next hb5)
        | (go_at_call 43; refine (likeProbe_same fv8 (show FV _ 0 (.slice none 0 0) [] from .inr ⟨rfl, rfl⟩) (by decide)).mono ?_; rintro e v6 ⟨rfl, hb6⟩; have hbw : Below w.heap.size w v6 := below_two hbw hb6; clear p0 p1 p2 p3 p4 p5 p6 p7; have DP : Hid (Pc v6 (b3) (⟨sa0, cy0, sn0, tp0, sv0, mt0, ta0⟩ : Pb) (.slice aD xD.length cD)) := DP.out.next hb6; have p0 : v6.cell? ⟨b3, 0, none⟩ = some (.int .i64 sa0) := DP.out.c0; have p1 : v6.cell? ⟨b3, 1, none⟩ = some (.int .i64 cy0) := DP.out.c1; have p2 : v6.cell? ⟨b3, 2, none⟩ = some (.int .i64 sn0) := DP.out.c2; have p3 : v6.cell? ⟨b3, 3, none⟩ = some (.int .i64 tp0) := DP.out.c3; have p4 : v6.cell? ⟨b3, 4, none⟩ = some (.int .i64 sv0) := DP.out.c4; have p5 : v6.cell? ⟨b3, 5, none⟩ = some (.slice aD xD.length cD) := DP.out.c5; have p6 : v6.cell? ⟨b3, 6, none⟩ = some (.int .i64 mt0) := DP.out.c6; have p7 : v6.cell? ⟨b3, 7, none⟩ = some (.int .i64 ta0) := DP.out.c7; clear o0 o1 o2 o3 o4 o5 o6 o7; have DO : Hid (Pc v6 (b8) (⟨0, 0, 0, 0, 0, 0, 0⟩ : Pb) (.slice a8 ([] : List (Int × Int)).length c8)) := DO.out.next hb6; have o0 : v6.cell? ⟨b8, 0, none⟩ = some (.int .i64 0) := DO.out.c0; have o1 : v6.cell? ⟨b8, 1, none⟩ = some (.int .i64 0) := DO.out.c1; have o2 : v6.cell? ⟨b8, 2, none⟩ = some (.int .i64 0) := DO.out.c2; have o3 : v6.cell? ⟨b8, 3, none⟩ = some (.int .i64 0) := DO.out.c3; have o4 : v6.cell? ⟨b8, 4, none⟩ = some (.int .i64 0) := DO.out.c4; have o5 : v6.cell? ⟨b8, 5, none⟩ = some (.slice a8 ([] : List (Int × Int)).length c8) := DO.out.c5; have o6 : v6.cell? ⟨b8, 6, none⟩ = some (.int .i64 0) := DO.out.c6; have o7 : v6.cell? ⟨b8, 7, none⟩ = some (.int .i64 0) := DO.out.c7; have fvD := fvD.next hb6; have fv8 := fv8.next hb6)
        | (go_at_call 47; refine (HimplCap.out _ _ _ fvD.smp.2).mono ?_; rintro e v7 ⟨rfl, hb7⟩; have hbw : Below w.heap.size w v7 := below_two hbw hb7))
      go_ret
      exact ⟨rfl, hbw⟩
    by_cases hk : ObOk sa0 cy0 sn0 tp0 sv0 mt0 ta0 now rate trip flight xD
    · obtain ⟨ey, es⟩ := HYES.out hk
      obtain ⟨l1, l2, l3, l4, l5⟩ := ob_law hk ey es
      clear ey es HYES HNO hk Ecv Epv Egv
      have l1 : pokB za zc zn zt zv zm zr yD = true := l1
      have l2 : ¬ za = 0 := l2
      have l3 : 0 < zm := l3
      have l5 : sa0 ≤ za ∨ sa0 = 4 := l5
      obtain ⟨c6, c7⟩ := cap_law l1
      have c8' := pace_law l1
      obtain ⟨cw, hcw⟩ : ∃ f, capAns za zc zn zt zv zm zr yD = f := ⟨_, rfl⟩
      obtain ⟨pw, hpw⟩ : ∃ f, paceAns za zc zn zt zv zm zr yD = f := ⟨_, rfl⟩
      obtain ⟨be, hbe⟩ : ∃ f, bestOf yD = f := ⟨_, rfl⟩
      rw [hcw] at c6 c7
      rw [hpw] at c8'
      rw [hbe] at l4
      have ECW : Hid (capAns za zc zn zt zv zm zr yD = cw) := hcw
      have EPW : Hid (paceAns za zc zn zt zv zm zr yD = pw) := hpw
      have EBE : Hid (bestOf yD = be) := hbe
      have L1 : Hid (pokB za zc zn zt zv zm zr yD = true) := l1
      clear hcw hpw hbe l1
      by_cases l6 : sa0 ≤ za
      · clear l5
        go_wp2_with (first
          | (go_at_call 51; refine (specProbeOk_is cD hp fvD.smp.2).mono ?_; rintro e v5 ⟨rfl, hb5⟩; have hbw : Below w.heap.size w v5 := below_two hbw hb5; clear p0 p1 p2 p3 p4 p5 p6 p7; have DP : Hid (Pc v5 (b3) (⟨sa0, cy0, sn0, tp0, sv0, mt0, ta0⟩ : Pb) (.slice aD xD.length cD)) := DP.out.next hb5; have p0 : v5.cell? ⟨b3, 0, none⟩ = some (.int .i64 sa0) := DP.out.c0; have p1 : v5.cell? ⟨b3, 1, none⟩ = some (.int .i64 cy0) := DP.out.c1; have p2 : v5.cell? ⟨b3, 2, none⟩ = some (.int .i64 sn0) := DP.out.c2; have p3 : v5.cell? ⟨b3, 3, none⟩ = some (.int .i64 tp0) := DP.out.c3; have p4 : v5.cell? ⟨b3, 4, none⟩ = some (.int .i64 sv0) := DP.out.c4; have p5 : v5.cell? ⟨b3, 5, none⟩ = some (.slice aD xD.length cD) := DP.out.c5; have p6 : v5.cell? ⟨b3, 6, none⟩ = some (.int .i64 mt0) := DP.out.c6; have p7 : v5.cell? ⟨b3, 7, none⟩ = some (.int .i64 ta0) := DP.out.c7; clear o0 o1 o2 o3 o4 o5 o6 o7; have DO : Hid (Pc v5 (b8) (⟨za, zc, zn, zt, zv, zm, zr⟩ : Pb) (.slice a8 yD.length c8)) := DO.out.next hb5; have o0 : v5.cell? ⟨b8, 0, none⟩ = some (.int .i64 za) := DO.out.c0; have o1 : v5.cell? ⟨b8, 1, none⟩ = some (.int .i64 zc) := DO.out.c1; have o2 : v5.cell? ⟨b8, 2, none⟩ = some (.int .i64 zn) := DO.out.c2; have o3 : v5.cell? ⟨b8, 3, none⟩ = some (.int .i64 zt) := DO.out.c3; have o4 : v5.cell? ⟨b8, 4, none⟩ = some (.int .i64 zv) := DO.out.c4; have o5 : v5.cell? ⟨b8, 5, none⟩ = some (.slice a8 yD.length c8) := DO.out.c5; have o6 : v5.cell? ⟨b8, 6, none⟩ = some (.int .i64 zm) := DO.out.c6; have o7 : v5.cell? ⟨b8, 7, none⟩ = some (.int .i64 zr) := DO.out.c7; have fvD := fvD.next hb5; have fv8 := fv8.next hb5)
          | (go_at_call 43; refine (likeProbe_not _ l2).mono ?_; rintro e v6 ⟨rfl, hb6⟩; have hbw : Below w.heap.size w v6 := below_two hbw hb6; clear p0 p1 p2 p3 p4 p5 p6 p7; have DP : Hid (Pc v6 (b3) (⟨sa0, cy0, sn0, tp0, sv0, mt0, ta0⟩ : Pb) (.slice aD xD.length cD)) := DP.out.next hb6; have p0 : v6.cell? ⟨b3, 0, none⟩ = some (.int .i64 sa0) := DP.out.c0; have p1 : v6.cell? ⟨b3, 1, none⟩ = some (.int .i64 cy0) := DP.out.c1; have p2 : v6.cell? ⟨b3, 2, none⟩ = some (.int .i64 sn0) := DP.out.c2; have p3 : v6.cell? ⟨b3, 3, none⟩ = some (.int .i64 tp0) := DP.out.c3; have p4 : v6.cell? ⟨b3, 4, none⟩ = some (.int .i64 sv0) := DP.out.c4; have p5 : v6.cell? ⟨b3, 5, none⟩ = some (.slice aD xD.length cD) := DP.out.c5; have p6 : v6.cell? ⟨b3, 6, none⟩ = some (.int .i64 mt0) := DP.out.c6; have p7 : v6.cell? ⟨b3, 7, none⟩ = some (.int .i64 ta0) := DP.out.c7; clear o0 o1 o2 o3 o4 o5 o6 o7; have DO : Hid (Pc v6 (b8) (⟨za, zc, zn, zt, zv, zm, zr⟩ : Pb) (.slice a8 yD.length c8)) := DO.out.next hb6; have o0 : v6.cell? ⟨b8, 0, none⟩ = some (.int .i64 za) := DO.out.c0; have o1 : v6.cell? ⟨b8, 1, none⟩ = some (.int .i64 zc) := DO.out.c1; have o2 : v6.cell? ⟨b8, 2, none⟩ = some (.int .i64 zn) := DO.out.c2; have o3 : v6.cell? ⟨b8, 3, none⟩ = some (.int .i64 zt) := DO.out.c3; have o4 : v6.cell? ⟨b8, 4, none⟩ = some (.int .i64 zv) := DO.out.c4; have o5 : v6.cell? ⟨b8, 5, none⟩ = some (.slice a8 yD.length c8) := DO.out.c5; have o6 : v6.cell? ⟨b8, 6, none⟩ = some (.int .i64 zm) := DO.out.c6; have o7 : v6.cell? ⟨b8, 7, none⟩ = some (.int .i64 zr) := DO.out.c7; have fvD := fvD.next hb6; have fv8 := fv8.next hb6)
          | (go_at_call 47; refine (implCap_any c8 fv8.smp.2).mono ?_; rintro e v7 ⟨rfl, hb7⟩; rw [ECW.out]; have hbw : Below w.heap.size w v7 := below_two hbw hb7; clear p0 p1 p2 p3 p4 p5 p6 p7; have DP : Hid (Pc v7 (b3) (⟨sa0, cy0, sn0, tp0, sv0, mt0, ta0⟩ : Pb) (.slice aD xD.length cD)) := DP.out.next hb7; have p0 : v7.cell? ⟨b3, 0, none⟩ = some (.int .i64 sa0) := DP.out.c0; have p1 : v7.cell? ⟨b3, 1, none⟩ = some (.int .i64 cy0) := DP.out.c1; have p2 : v7.cell? ⟨b3, 2, none⟩ = some (.int .i64 sn0) := DP.out.c2; have p3 : v7.cell? ⟨b3, 3, none⟩ = some (.int .i64 tp0) := DP.out.c3; have p4 : v7.cell? ⟨b3, 4, none⟩ = some (.int .i64 sv0) := DP.out.c4; have p5 : v7.cell? ⟨b3, 5, none⟩ = some (.slice aD xD.length cD) := DP.out.c5; have p6 : v7.cell? ⟨b3, 6, none⟩ = some (.int .i64 mt0) := DP.out.c6; have p7 : v7.cell? ⟨b3, 7, none⟩ = some (.int .i64 ta0) := DP.out.c7; clear o0 o1 o2 o3 o4 o5 o6 o7; have DO : Hid (Pc v7 (b8) (⟨za, zc, zn, zt, zv, zm, zr⟩ : Pb) (.slice a8 yD.length c8)) := DO.out.next hb7; have o0 : v7.cell? ⟨b8, 0, none⟩ = some (.int .i64 za) := DO.out.c0; have o1 : v7.cell? ⟨b8, 1, none⟩ = some (.int .i64 zc) := DO.out.c1; have o2 : v7.cell? ⟨b8, 2, none⟩ = some (.int .i64 zn) := DO.out.c2; have o3 : v7.cell? ⟨b8, 3, none⟩ = some (.int .i64 zt) := DO.out.c3; have o4 : v7.cell? ⟨b8, 4, none⟩ = some (.int .i64 zv) := DO.out.c4; have o5 : v7.cell? ⟨b8, 5, none⟩ = some (.slice a8 yD.length c8) := DO.out.c5; have o6 : v7.cell? ⟨b8, 6, none⟩ = some (.int .i64 zm) := DO.out.c6; have o7 : v7.cell? ⟨b8, 7, none⟩ = some (.int .i64 zr) := DO.out.c7; have fvD := fvD.next hb7; have fv8 := fv8.next hb7)
          | (go_at_call 52; refine (implProbeOk_is c8 L1.out fv8.smp.2).mono ?_; rintro e v8 ⟨rfl, hb8⟩; have hbw : Below w.heap.size w v8 := below_two hbw hb8; clear p0 p1 p2 p3 p4 p5 p6 p7; have DP : Hid (Pc v8 (b3) (⟨sa0, cy0, sn0, tp0, sv0, mt0, ta0⟩ : Pb) (.slice aD xD.length cD)) := DP.out.next hb8; have p0 : v8.cell? ⟨b3, 0, none⟩ = some (.int .i64 sa0) := DP.out.c0; have p1 : v8.cell? ⟨b3, 1, none⟩ = some (.int .i64 cy0) := DP.out.c1; have p2 : v8.cell? ⟨b3, 2, none⟩ = some (.int .i64 sn0) := DP.out.c2; have p3 : v8.cell? ⟨b3, 3, none⟩ = some (.int .i64 tp0) := DP.out.c3; have p4 : v8.cell? ⟨b3, 4, none⟩ = some (.int .i64 sv0) := DP.out.c4; have p5 : v8.cell? ⟨b3, 5, none⟩ = some (.slice aD xD.length cD) := DP.out.c5; have p6 : v8.cell? ⟨b3, 6, none⟩ = some (.int .i64 mt0) := DP.out.c6; have p7 : v8.cell? ⟨b3, 7, none⟩ = some (.int .i64 ta0) := DP.out.c7; clear o0 o1 o2 o3 o4 o5 o6 o7; have DO : Hid (Pc v8 (b8) (⟨za, zc, zn, zt, zv, zm, zr⟩ : Pb) (.slice a8 yD.length c8)) := DO.out.next hb8; have o0 : v8.cell? ⟨b8, 0, none⟩ = some (.int .i64 za) := DO.out.c0; have o1 : v8.cell? ⟨b8, 1, none⟩ = some (.int .i64 zc) := DO.out.c1; have o2 : v8.cell? ⟨b8, 2, none⟩ = some (.int .i64 zn) := DO.out.c2; have o3 : v8.cell? ⟨b8, 3, none⟩ = some (.int .i64 zt) := DO.out.c3; have o4 : v8.cell? ⟨b8, 4, none⟩ = some (.int .i64 zv) := DO.out.c4; have o5 : v8.cell? ⟨b8, 5, none⟩ = some (.slice a8 yD.length c8) := DO.out.c5; have o6 : v8.cell? ⟨b8, 6, none⟩ = some (.int .i64 zm) := DO.out.c6; have o7 : v8.cell? ⟨b8, 7, none⟩ = some (.int .i64 zr) := DO.out.c7; have fvD := fvD.next hb8; have fv8 := fv8.next hb8)
          | (go_at_call 53; refine (specBest_any c8 fv8.smp.2 (Nat.le_refl _)).mono ?_; rintro e v9 ⟨rfl, hb9⟩; rw [EBE.out]; have hbw : Below w.heap.size w v9 := below_two hbw hb9; clear p0 p1 p2 p3 p4 p5 p6 p7; have DP : Hid (Pc v9 (b3) (⟨sa0, cy0, sn0, tp0, sv0, mt0, ta0⟩ : Pb) (.slice aD xD.length cD)) := DP.out.next hb9; have p0 : v9.cell? ⟨b3, 0, none⟩ = some (.int .i64 sa0) := DP.out.c0; have p1 : v9.cell? ⟨b3, 1, none⟩ = some (.int .i64 cy0) := DP.out.c1; have p2 : v9.cell? ⟨b3, 2, none⟩ = some (.int .i64 sn0) := DP.out.c2; have p3 : v9.cell? ⟨b3, 3, none⟩ = some (.int .i64 tp0) := DP.out.c3; have p4 : v9.cell? ⟨b3, 4, none⟩ = some (.int .i64 sv0) := DP.out.c4; have p5 : v9.cell? ⟨b3, 5, none⟩ = some (.slice aD xD.length cD) := DP.out.c5; have p6 : v9.cell? ⟨b3, 6, none⟩ = some (.int .i64 mt0) := DP.out.c6; have p7 : v9.cell? ⟨b3, 7, none⟩ = some (.int .i64 ta0) := DP.out.c7; clear o0 o1 o2 o3 o4 o5 o6 o7; have DO : Hid (Pc v9 (b8) (⟨za, zc, zn, zt, zv, zm, zr⟩ : Pb) (.slice a8 yD.length c8)) := DO.out.next hb9; have o0 : v9.cell? ⟨b8, 0, none⟩ = some (.int .i64 za) := DO.out.c0; have o1 : v9.cell? ⟨b8, 1, none⟩ = some (.int .i64 zc) := DO.out.c1; have o2 : v9.cell? ⟨b8, 2, none⟩ = some (.int .i64 zn) := DO.out.c2; have o3 : v9.cell? ⟨b8, 3, none⟩ = some (.int .i64 zt) := DO.out.c3; have o4 : v9.cell? ⟨b8, 4, none⟩ = some (.int .i64 zv) := DO.out.c4; have o5 : v9.cell? ⟨b8, 5, none⟩ = some (.slice a8 yD.length c8) := DO.out.c5; have o6 : v9.cell? ⟨b8, 6, none⟩ = some (.int .i64 zm) := DO.out.c6; have o7 : v9.cell? ⟨b8, 7, none⟩ = some (.int .i64 zr) := DO.out.c7; have fvD := fvD.next hb9; have fv8 := fv8.next hb9)
          | (go_at_call 45; refine (implPace_any c8 fv8.smp.2).mono ?_; rintro e v10 ⟨rfl, hb10⟩; rw [EPW.out]; have hbw : Below w.heap.size w v10 := below_two hbw hb10; clear p0 p1 p2 p3 p4 p5 p6 p7; have DP : Hid (Pc v10 (b3) (⟨sa0, cy0, sn0, tp0, sv0, mt0, ta0⟩ : Pb) (.slice aD xD.length cD)) := DP.out.next hb10; have p0 : v10.cell? ⟨b3, 0, none⟩ = some (.int .i64 sa0) := DP.out.c0; have p1 : v10.cell? ⟨b3, 1, none⟩ = some (.int .i64 cy0) := DP.out.c1; have p2 : v10.cell? ⟨b3, 2, none⟩ = some (.int .i64 sn0) := DP.out.c2; have p3 : v10.cell? ⟨b3, 3, none⟩ = some (.int .i64 tp0) := DP.out.c3; have p4 : v10.cell? ⟨b3, 4, none⟩ = some (.int .i64 sv0) := DP.out.c4; have p5 : v10.cell? ⟨b3, 5, none⟩ = some (.slice aD xD.length cD) := DP.out.c5; have p6 : v10.cell? ⟨b3, 6, none⟩ = some (.int .i64 mt0) := DP.out.c6; have p7 : v10.cell? ⟨b3, 7, none⟩ = some (.int .i64 ta0) := DP.out.c7; clear o0 o1 o2 o3 o4 o5 o6 o7; have DO : Hid (Pc v10 (b8) (⟨za, zc, zn, zt, zv, zm, zr⟩ : Pb) (.slice a8 yD.length c8)) := DO.out.next hb10; have o0 : v10.cell? ⟨b8, 0, none⟩ = some (.int .i64 za) := DO.out.c0; have o1 : v10.cell? ⟨b8, 1, none⟩ = some (.int .i64 zc) := DO.out.c1; have o2 : v10.cell? ⟨b8, 2, none⟩ = some (.int .i64 zn) := DO.out.c2; have o3 : v10.cell? ⟨b8, 3, none⟩ = some (.int .i64 zt) := DO.out.c3; have o4 : v10.cell? ⟨b8, 4, none⟩ = some (.int .i64 zv) := DO.out.c4; have o5 : v10.cell? ⟨b8, 5, none⟩ = some (.slice a8 yD.length c8) := DO.out.c5; have o6 : v10.cell? ⟨b8, 6, none⟩ = some (.int .i64 zm) := DO.out.c6; have o7 : v10.cell? ⟨b8, 7, none⟩ = some (.int .i64 zr) := DO.out.c7; have fvD := fvD.next hb10; have fv8 := fv8.next hb10))
        go_ret
        exact ⟨rfl, hbw⟩
      · have l7 : sa0 = 4 := by omega
        subst l7
        clear l5
        go_wp2_with (first
          | (go_at_call 51; refine (specProbeOk_is cD hp fvD.smp.2).mono ?_; rintro e v5 ⟨rfl, hb5⟩; have hbw : Below w.heap.size w v5 := below_two hbw hb5; clear p0 p1 p2 p3 p4 p5 p6 p7; have DP : Hid (Pc v5 (b3) (⟨4, cy0, sn0, tp0, sv0, mt0, ta0⟩ : Pb) (.slice aD xD.length cD)) := DP.out.next hb5; have p0 : v5.cell? ⟨b3, 0, none⟩ = some (.int .i64 4) := DP.out.c0; have p1 : v5.cell? ⟨b3, 1, none⟩ = some (.int .i64 cy0) := DP.out.c1; have p2 : v5.cell? ⟨b3, 2, none⟩ = some (.int .i64 sn0) := DP.out.c2; have p3 : v5.cell? ⟨b3, 3, none⟩ = some (.int .i64 tp0) := DP.out.c3; have p4 : v5.cell? ⟨b3, 4, none⟩ = some (.int .i64 sv0) := DP.out.c4; have p5 : v5.cell? ⟨b3, 5, none⟩ = some (.slice aD xD.length cD) := DP.out.c5; have p6 : v5.cell? ⟨b3, 6, none⟩ = some (.int .i64 mt0) := DP.out.c6; have p7 : v5.cell? ⟨b3, 7, none⟩ = some (.int .i64 ta0) := DP.out.c7; clear o0 o1 o2 o3 o4 o5 o6 o7; have DO : Hid (Pc v5 (b8) (⟨za, zc, zn, zt, zv, zm, zr⟩ : Pb) (.slice a8 yD.length c8)) := DO.out.next hb5; have o0 : v5.cell? ⟨b8, 0, none⟩ = some (.int .i64 za) := DO.out.c0; have o1 : v5.cell? ⟨b8, 1, none⟩ = some (.int .i64 zc) := DO.out.c1; have o2 : v5.cell? ⟨b8, 2, none⟩ = some (.int .i64 zn) := DO.out.c2; have o3 : v5.cell? ⟨b8, 3, none⟩ = some (.int .i64 zt) := DO.out.c3; have o4 : v5.cell? ⟨b8, 4, none⟩ = some (.int .i64 zv) := DO.out.c4; have o5 : v5.cell? ⟨b8, 5, none⟩ = some (.slice a8 yD.length c8) := DO.out.c5; have o6 : v5.cell? ⟨b8, 6, none⟩ = some (.int .i64 zm) := DO.out.c6; have o7 : v5.cell? ⟨b8, 7, none⟩ = some (.int .i64 zr) := DO.out.c7; have fvD := fvD.next hb5; have fv8 := fv8.next hb5)
          | (go_at_call 43; refine (likeProbe_not _ l2).mono ?_; rintro e v6 ⟨rfl, hb6⟩; have hbw : Below w.heap.size w v6 := below_two hbw hb6; clear p0 p1 p2 p3 p4 p5 p6 p7; have DP : Hid (Pc v6 (b3) (⟨4, cy0, sn0, tp0, sv0, mt0, ta0⟩ : Pb) (.slice aD xD.length cD)) := DP.out.next hb6; have p0 : v6.cell? ⟨b3, 0, none⟩ = some (.int .i64 4) := DP.out.c0; have p1 : v6.cell? ⟨b3, 1, none⟩ = some (.int .i64 cy0) := DP.out.c1; have p2 : v6.cell? ⟨b3, 2, none⟩ = some (.int .i64 sn0) := DP.out.c2; have p3 : v6.cell? ⟨b3, 3, none⟩ = some (.int .i64 tp0) := DP.out.c3; have p4 : v6.cell? ⟨b3, 4, none⟩ = some (.int .i64 sv0) := DP.out.c4; have p5 : v6.cell? ⟨b3, 5, none⟩ = some (.slice aD xD.length cD) := DP.out.c5; have p6 : v6.cell? ⟨b3, 6, none⟩ = some (.int .i64 mt0) := DP.out.c6; have p7 : v6.cell? ⟨b3, 7, none⟩ = some (.int .i64 ta0) := DP.out.c7; clear o0 o1 o2 o3 o4 o5 o6 o7; have DO : Hid (Pc v6 (b8) (⟨za, zc, zn, zt, zv, zm, zr⟩ : Pb) (.slice a8 yD.length c8)) := DO.out.next hb6; have o0 : v6.cell? ⟨b8, 0, none⟩ = some (.int .i64 za) := DO.out.c0; have o1 : v6.cell? ⟨b8, 1, none⟩ = some (.int .i64 zc) := DO.out.c1; have o2 : v6.cell? ⟨b8, 2, none⟩ = some (.int .i64 zn) := DO.out.c2; have o3 : v6.cell? ⟨b8, 3, none⟩ = some (.int .i64 zt) := DO.out.c3; have o4 : v6.cell? ⟨b8, 4, none⟩ = some (.int .i64 zv) := DO.out.c4; have o5 : v6.cell? ⟨b8, 5, none⟩ = some (.slice a8 yD.length c8) := DO.out.c5; have o6 : v6.cell? ⟨b8, 6, none⟩ = some (.int .i64 zm) := DO.out.c6; have o7 : v6.cell? ⟨b8, 7, none⟩ = some (.int .i64 zr) := DO.out.c7; have fvD := fvD.next hb6; have fv8 := fv8.next hb6)
          | (go_at_call 47; refine (implCap_any c8 fv8.smp.2).mono ?_; rintro e v7 ⟨rfl, hb7⟩; rw [ECW.out]; have hbw : Below w.heap.size w v7 := below_two hbw hb7; clear p0 p1 p2 p3 p4 p5 p6 p7; have DP : Hid (Pc v7 (b3) (⟨4, cy0, sn0, tp0, sv0, mt0, ta0⟩ : Pb) (.slice aD xD.length cD)) := DP.out.next hb7; have p0 : v7.cell? ⟨b3, 0, none⟩ = some (.int .i64 4) := DP.out.c0; have p1 : v7.cell? ⟨b3, 1, none⟩ = some (.int .i64 cy0) := DP.out.c1; have p2 : v7.cell? ⟨b3, 2, none⟩ = some (.int .i64 sn0) := DP.out.c2; have p3 : v7.cell? ⟨b3, 3, none⟩ = some (.int .i64 tp0) := DP.out.c3; have p4 : v7.cell? ⟨b3, 4, none⟩ = some (.int .i64 sv0) := DP.out.c4; have p5 : v7.cell? ⟨b3, 5, none⟩ = some (.slice aD xD.length cD) := DP.out.c5; have p6 : v7.cell? ⟨b3, 6, none⟩ = some (.int .i64 mt0) := DP.out.c6; have p7 : v7.cell? ⟨b3, 7, none⟩ = some (.int .i64 ta0) := DP.out.c7; clear o0 o1 o2 o3 o4 o5 o6 o7; have DO : Hid (Pc v7 (b8) (⟨za, zc, zn, zt, zv, zm, zr⟩ : Pb) (.slice a8 yD.length c8)) := DO.out.next hb7; have o0 : v7.cell? ⟨b8, 0, none⟩ = some (.int .i64 za) := DO.out.c0; have o1 : v7.cell? ⟨b8, 1, none⟩ = some (.int .i64 zc) := DO.out.c1; have o2 : v7.cell? ⟨b8, 2, none⟩ = some (.int .i64 zn) := DO.out.c2; have o3 : v7.cell? ⟨b8, 3, none⟩ = some (.int .i64 zt) := DO.out.c3; have o4 : v7.cell? ⟨b8, 4, none⟩ = some (.int .i64 zv) := DO.out.c4; have o5 : v7.cell? ⟨b8, 5, none⟩ = some (.slice a8 yD.length c8) := DO.out.c5; have o6 : v7.cell? ⟨b8, 6, none⟩ = some (.int .i64 zm) := DO.out.c6; have o7 : v7.cell? ⟨b8, 7, none⟩ = some (.int .i64 zr) := DO.out.c7; have fvD := fvD.next hb7; have fv8 := fv8.next hb7)
          | (go_at_call 52; refine (implProbeOk_is c8 L1.out fv8.smp.2).mono ?_; rintro e v8 ⟨rfl, hb8⟩; have hbw : Below w.heap.size w v8 := below_two hbw hb8; clear p0 p1 p2 p3 p4 p5 p6 p7; have DP : Hid (Pc v8 (b3) (⟨4, cy0, sn0, tp0, sv0, mt0, ta0⟩ : Pb) (.slice aD xD.length cD)) := DP.out.next hb8; have p0 : v8.cell? ⟨b3, 0, none⟩ = some (.int .i64 4) := DP.out.c0; have p1 : v8.cell? ⟨b3, 1, none⟩ = some (.int .i64 cy0) := DP.out.c1; have p2 : v8.cell? ⟨b3, 2, none⟩ = some (.int .i64 sn0) := DP.out.c2; have p3 : v8.cell? ⟨b3, 3, none⟩ = some (.int .i64 tp0) := DP.out.c3; have p4 : v8.cell? ⟨b3, 4, none⟩ = some (.int .i64 sv0) := DP.out.c4; have p5 : v8.cell? ⟨b3, 5, none⟩ = some (.slice aD xD.length cD) := DP.out.c5; have p6 : v8.cell? ⟨b3, 6, none⟩ = some (.int .i64 mt0) := DP.out.c6; have p7 : v8.cell? ⟨b3, 7, none⟩ = some (.int .i64 ta0) := DP.out.c7; clear o0 o1 o2 o3 o4 o5 o6 o7; have DO : Hid (Pc v8 (b8) (⟨za, zc, zn, zt, zv, zm, zr⟩ : Pb) (.slice a8 yD.length c8)) := DO.out.next hb8; have o0 : v8.cell? ⟨b8, 0, none⟩ = some (.int .i64 za) := DO.out.c0; have o1 : v8.cell? ⟨b8, 1, none⟩ = some (.int .i64 zc) := DO.out.c1; have o2 : v8.cell? ⟨b8, 2, none⟩ = some (.int .i64 zn) := DO.out.c2; have o3 : v8.cell? ⟨b8, 3, none⟩ = some (.int .i64 zt) := DO.out.c3; have o4 : v8.cell? ⟨b8, 4, none⟩ = some (.int .i64 zv) := DO.out.c4; have o5 : v8.cell? ⟨b8, 5, none⟩ = some (.slice a8 yD.length c8) := DO.out.c5; have o6 : v8.cell? ⟨b8, 6, none⟩ = some (.int .i64 zm) := DO.out.c6; have o7 : v8.cell? ⟨b8, 7, none⟩ = some (.int .i64 zr) := DO.out.c7; have fvD := fvD.next hb8; have fv8 := fv8.next hb8)
          | (go_at_call 53; refine (specBest_any c8 fv8.smp.2 (Nat.le_refl _)).mono ?_; rintro e v9 ⟨rfl, hb9⟩; rw [EBE.out]; have hbw : Below w.heap.size w v9 := below_two hbw hb9; clear p0 p1 p2 p3 p4 p5 p6 p7; have DP : Hid (Pc v9 (b3) (⟨4, cy0, sn0, tp0, sv0, mt0, ta0⟩ : Pb) (.slice aD xD.length cD)) := DP.out.next hb9; have p0 : v9.cell? ⟨b3, 0, none⟩ = some (.int .i64 4) := DP.out.c0; have p1 : v9.cell? ⟨b3, 1, none⟩ = some (.int .i64 cy0) := DP.out.c1; have p2 : v9.cell? ⟨b3, 2, none⟩ = some (.int .i64 sn0) := DP.out.c2; have p3 : v9.cell? ⟨b3, 3, none⟩ = some (.int .i64 tp0) := DP.out.c3; have p4 : v9.cell? ⟨b3, 4, none⟩ = some (.int .i64 sv0) := DP.out.c4; have p5 : v9.cell? ⟨b3, 5, none⟩ = some (.slice aD xD.length cD) := DP.out.c5; have p6 : v9.cell? ⟨b3, 6, none⟩ = some (.int .i64 mt0) := DP.out.c6; have p7 : v9.cell? ⟨b3, 7, none⟩ = some (.int .i64 ta0) := DP.out.c7; clear o0 o1 o2 o3 o4 o5 o6 o7; have DO : Hid (Pc v9 (b8) (⟨za, zc, zn, zt, zv, zm, zr⟩ : Pb) (.slice a8 yD.length c8)) := DO.out.next hb9; have o0 : v9.cell? ⟨b8, 0, none⟩ = some (.int .i64 za) := DO.out.c0; have o1 : v9.cell? ⟨b8, 1, none⟩ = some (.int .i64 zc) := DO.out.c1; have o2 : v9.cell? ⟨b8, 2, none⟩ = some (.int .i64 zn) := DO.out.c2; have o3 : v9.cell? ⟨b8, 3, none⟩ = some (.int .i64 zt) := DO.out.c3; have o4 : v9.cell? ⟨b8, 4, none⟩ = some (.int .i64 zv) := DO.out.c4; have o5 : v9.cell? ⟨b8, 5, none⟩ = some (.slice a8 yD.length c8) := DO.out.c5; have o6 : v9.cell? ⟨b8, 6, none⟩ = some (.int .i64 zm) := DO.out.c6; have o7 : v9.cell? ⟨b8, 7, none⟩ = some (.int .i64 zr) := DO.out.c7; have fvD := fvD.next hb9; have fv8 := fv8.next hb9)
          | (go_at_call 45; refine (implPace_any c8 fv8.smp.2).mono ?_; rintro e v10 ⟨rfl, hb10⟩; rw [EPW.out]; have hbw : Below w.heap.size w v10 := below_two hbw hb10; clear p0 p1 p2 p3 p4 p5 p6 p7; have DP : Hid (Pc v10 (b3) (⟨4, cy0, sn0, tp0, sv0, mt0, ta0⟩ : Pb) (.slice aD xD.length cD)) := DP.out.next hb10; have p0 : v10.cell? ⟨b3, 0, none⟩ = some (.int .i64 4) := DP.out.c0; have p1 : v10.cell? ⟨b3, 1, none⟩ = some (.int .i64 cy0) := DP.out.c1; have p2 : v10.cell? ⟨b3, 2, none⟩ = some (.int .i64 sn0) := DP.out.c2; have p3 : v10.cell? ⟨b3, 3, none⟩ = some (.int .i64 tp0) := DP.out.c3; have p4 : v10.cell? ⟨b3, 4, none⟩ = some (.int .i64 sv0) := DP.out.c4; have p5 : v10.cell? ⟨b3, 5, none⟩ = some (.slice aD xD.length cD) := DP.out.c5; have p6 : v10.cell? ⟨b3, 6, none⟩ = some (.int .i64 mt0) := DP.out.c6; have p7 : v10.cell? ⟨b3, 7, none⟩ = some (.int .i64 ta0) := DP.out.c7; clear o0 o1 o2 o3 o4 o5 o6 o7; have DO : Hid (Pc v10 (b8) (⟨za, zc, zn, zt, zv, zm, zr⟩ : Pb) (.slice a8 yD.length c8)) := DO.out.next hb10; have o0 : v10.cell? ⟨b8, 0, none⟩ = some (.int .i64 za) := DO.out.c0; have o1 : v10.cell? ⟨b8, 1, none⟩ = some (.int .i64 zc) := DO.out.c1; have o2 : v10.cell? ⟨b8, 2, none⟩ = some (.int .i64 zn) := DO.out.c2; have o3 : v10.cell? ⟨b8, 3, none⟩ = some (.int .i64 zt) := DO.out.c3; have o4 : v10.cell? ⟨b8, 4, none⟩ = some (.int .i64 zv) := DO.out.c4; have o5 : v10.cell? ⟨b8, 5, none⟩ = some (.slice a8 yD.length c8) := DO.out.c5; have o6 : v10.cell? ⟨b8, 6, none⟩ = some (.int .i64 zm) := DO.out.c6; have o7 : v10.cell? ⟨b8, 7, none⟩ = some (.int .i64 zr) := DO.out.c7; have fvD := fvD.next hb10; have fv8 := fv8.next hb10))
        go_ret
        exact ⟨rfl, hbw⟩
    · obtain ⟨ey, es⟩ := HNO.out hk
      injection es with q0 q1 q2 q3 q4 q5 q6
      subst ey q0 q1 q2 q3 q4 q5 q6
      clear HYES HNO hk Ecv Epv Egv
      go_wp2_with (first
        | (go_at_call 51; refine (specProbeOk_is cD hp fvD.smp.2).mono ?_; rintro e v5 ⟨rfl, hb5⟩; have hbw : Below w.heap.size w v5 := below_two hbw hb5; clear p0 p1 p2 p3 p4 p5 p6 p7; have DP : Hid (Pc v5 (b3) (⟨sa0, cy0, sn0, tp0, sv0, mt0, ta0⟩ : Pb) (.slice aD xD.length cD)) := DP.out.next hb5; have p0 : v5.cell? ⟨b3, 0, none⟩ = some (.int .i64 sa0) := DP.out.c0; have p1 : v5.cell? ⟨b3, 1, none⟩ = some (.int .i64 cy0) := DP.out.c1; have p2 : v5.cell? ⟨b3, 2, none⟩ = some (.int .i64 sn0) := DP.out.c2; have p3 : v5.cell? ⟨b3, 3, none⟩ = some (.int .i64 tp0) := DP.out.c3; have p4 : v5.cell? ⟨b3, 4, none⟩ = some (.int .i64 sv0) := DP.out.c4; have p5 : v5.cell? ⟨b3, 5, none⟩ = some (.slice aD xD.length cD) := DP.out.c5; have p6 : v5.cell? ⟨b3, 6, none⟩ = some (.int .i64 mt0) := DP.out.c6; have p7 : v5.cell? ⟨b3, 7, none⟩ = some (.int .i64 ta0) := DP.out.c7; clear o0 o1 o2 o3 o4 o5 o6 o7; have DO : Hid (Pc v5 (b8) (⟨0, 0, 0, 0, 0, 0, 0⟩ : Pb) (.slice a8 ([] : List (Int × Int)).length c8)) := DO.out.next hb5; have o0 : v5.cell? ⟨b8, 0, none⟩ = some (.int .i64 0) := DO.out.c0; have o1 : v5.cell? ⟨b8, 1, none⟩ = some (.int .i64 0) := DO.out.c1; have o2 : v5.cell? ⟨b8, 2, none⟩ = some (.int .i64 0) := DO.out.c2; have o3 : v5.cell? ⟨b8, 3, none⟩ = some (.int .i64 0) := DO.out.c3; have o4 : v5.cell? ⟨b8, 4, none⟩ = some (.int .i64 0) := DO.out.c4; have o5 : v5.cell? ⟨b8, 5, none⟩ = some (.slice a8 ([] : List (Int × Int)).length c8) := DO.out.c5; have o6 : v5.cell? ⟨b8, 6, none⟩ = some (.int .i64 0) := DO.out.c6; have o7 : v5.cell? ⟨b8, 7, none⟩ = some (.int .i64 0) := DO.out.c7; have fvD := fvD.next hb5; have fv8 := fv8.next hb5)
        | (go_at_call 43; refine (likeProbe_same fv8 (show FV _ 0 (.slice none 0 0) [] from .inr ⟨rfl, rfl⟩) (by decide)).mono ?_; rintro e v6 ⟨rfl, hb6⟩; have hbw : Below w.heap.size w v6 := below_two hbw hb6))
      go_ret
      exact ⟨rfl, hbw⟩
  · have hbig : (4096 : Int) < (len0 : Int) := by omega
    go_enter Try.func8, Try.ntmps8
    go_wp2
    go_ret
    exact ⟨rfl, Below.refl _ _⟩

/-! ### THE ROW's STEP: WRITTEN OUT: LEAVE IT -/
set_option maxRecDepth 100000 in
theorem lifted (os : Os) (started : os.Started) (H : Type) (enc : TypeId × Value → H) :
    ReturnsInHanded {} Try.checked os 8 .any (Rows.fnProbesSpec.pre6 enc Try.prog Try.f8 Rows.fnProbesRow.domain false) (Rows.fnProbesSpec.post enc Try.prog Try.f8 false true false false) := by
  refine returnsInHanded_of_change (C := Try.checked) own started (by kernel_rfl) Try.func8
    (ChangeSpec.witness6 (enc := enc) (C := Try.checked) false ⟨#[], #[.slice none 0 0], []⟩ 8 (by kernel_rfl) (by kernel_rfl) (by kernel_rfl) (by kernel_rfl)) ?_
  intro W base args ds gs before hval0 hW hcnd _
  have hval : ∀ (j : Nat) t v, Try.f8.params[j]? = some t → args[j]? = some v → Value.okWide Try.prog W .any base t v := hval0
  have hW' := hW
  obtain ⟨p, q, hA0, hV, rfl, hfz, hnd⟩ := hW
  have hA : DataW.TrodAll enc Try.prog W 0 (fun _ => true) true Try.f8.params.toList args.toList ds p := hA0
  rw [Try.params8] at hA hval
  obtain ⟨v0, vs0, d0, ds0, p0, q0, hargs, rfl, rfl, h0, r0⟩ := trodAll_cons hA
  obtain ⟨rfl, rfl, rfl⟩ := trodAll_nil r0
  obtain rfl : args = #[v0] := by cases args; simp_all
  obtain ⟨rfl, rfl⟩ := trodVars_none hV
  obtain ⟨a0, len0, cap0, rfl⟩ := okWide_slice Try.underlying22 (hval 0 22 v0 rfl rfl)
  have k0 := h0
  have lt0 : ∀ x ∈ p0, x.block < W.heap.size := by obtain ⟨m, hm⟩ := k0; exact DataW.trod_lt m _ _ _ hm
  obtain ⟨z0, w0⟩ : ∃ zs, IsRow .u8 W a0 len0 cap0 zs := by
    obtain ⟨fuel, hf⟩ := h0
    rcases open_ints Try.underlying22 Try.underlying5 (by kernel_rfl) hf with ⟨hcs, _⟩ | ⟨x, l, c, zs, hcs, _, hl, hm, hz, _, hcell, hwz⟩
    · simp [Value.cells] at hcs
      obtain ⟨rfl, rfl, rfl⟩ := hcs
      exact ⟨[], .inl ⟨rfl, rfl, rfl, rfl⟩⟩
    · simp [Value.cells] at hcs
      obtain ⟨rfl, rfl, rfl⟩ := hcs
      exact ⟨zs, .inr ⟨_, rfl, hl, hm, by simpa using hz, hcell, hwz⟩⟩
  clear hA0 hval0
  refine (walk a0 len0 cap0 z0 W w0).mono fun e W' ⟨he, bel⟩ => ?_
  subst he
  exact ⟨_, rfl, _, _, _, [], _, [], hW', trodAll_mk1 (shut_bool Try.underlying4 _), (trodAll_cons_mk (Below.trod laidOut (by kernel_rfl) (of_decide_eq_true (by kernel_rfl)) k0 bel lt0) trodAll_mk0), rfl, bel.frame _, fun h => by cases h⟩

theorem over : Rows.fnProbesRow.holds Try.pinned (OpenSpec.ofChange Rows.fnProbesSpec) :=
  OpenClaim.holds_of_wide 8 Try.f8 rfl rfl rfl rfl rfl rfl rfl ⟨rfl, rfl, rfl, rfl, rfl⟩ rfl rfl rfl rfl rfl (by kernel_rfl) Try.func8 (by kernel_rfl)
    (of_decide_eq_true (by kernel_rfl)) (by unfold Func.isWrapper; first | (rw [if_pos (by decide +kernel)]; kernel_rfl) | (rw [if_neg (by decide +kernel)]; exact ⟨rfl, rfl⟩))
    (fun os started H enc _ => lifted os started H enc)

/-- ████ THE STATEMENT ████ -/
theorem proved : Rows.FnProbesSaid := over
#print axioms proved
end Go.Proofs.Ytiibafphgjlffae.fnProbes
namespace Go.Proofs.Ytiibafphgjlffae
theorem fnProbes_holds : Rows.FnProbesSaid := fnProbes.proved
#print axioms fnProbes_holds
end Go.Proofs.Ytiibafphgjlffae
