/- Proved: whatever the bytes, the law FnQueued returns true (at the Turns, the number and the size that the model draws of them impl.Queue answers as spec's does; what is refused is the zero Turns; what is queued comes last in its queue, the Turns stay right, and just its bytes wait more), and the bytes read as before; no condition. -/
import Derived.Test.YtdgefdjgpneanadRows
import Derived.WalkKit
import Derived.ProofKit
import Derived.OpenShut
import Derived.ShutString
import Derived.ChangeOld
import Derived.Below
import Derived.Test.YtdgefdjgpneanadQueueBoth
import Derived.Test.YtdgefdjgpneanadTurnMath2
import Derived.Test.YtdgefdjgpneanadWaits
import Derived.Test.YtdgefdjgpneanadLikeT
import Derived.Test.YtdgefdjgpneanadDraw8h
import Derived.Deep.RegionHeld3
import Derived.Deep.DeepCutAuto
namespace Go.Proofs.Ytdgefdjgpneanad.fnQueued
open Go.ChangeShapes Go.WideShapes Go.ChangeAt Go.RowKit
open Go.ChangeMaps (open_string shut_string)
set_option linter.unusedVariables false

theorem own : ownKnob Try.prog.godebug = none := by kernel_rfl
theorem laidOut : laidOutB Try.prog = true := by kernel_rfl

/-- WHAT THE WALK IS TOLD OF A SLICE OF INTEGERS THAT CAME IN: it is nil; or it leads to a row of 'cap' cells, the numbers 'zs' (the first 'len' are its elements, the rest its spare room), each fitting its kind. -/
def IsRow (k : IntKind) (w : World) (a : Option Addr) (len cap : Nat) (zs : List Int) : Prop :=
  (a = none ∧ len = 0 ∧ cap = 0 ∧ zs = []) ∨
  ∃ x, a = some x ∧ len ≤ cap ∧ cap ≤ maxLen ∧ zs.length = cap ∧ (∀ i, i < zs.length → w.cell? (x.add i) = some (.int k (zs.getD i 0))) ∧ ∀ n ∈ zs, (Lit.int k n).wf = true

set_option linter.unusedSimpArgs false
set_option maxRecDepth 100000
theorem row_of {w : World} {a : Option Addr} {len cap : Nat} {zs : List Int} (h : IsRow .u8 w a len cap zs) : Row w.heap.size a len w := by
  intro i hi
  rcases h with ⟨rfl, rfl, rfl, rfl⟩ | ⟨x, rfl, hl, hm, hz, hcell, hwz⟩
  · omega
  · obtain ⟨b, off, spot⟩ := x
    have hspot : spot = none := by simpa [Addr.add] using World.cell?_spot (hcell 0 (by omega))
    subst hspot
    have hc := hcell i (by omega)
    have hc' : w.cell? ⟨b, off + i, none⟩ = some (.int .u8 (zs.getD i 0)) := by
      by_cases h0 : i = 0
      · subst h0; simpa [Addr.add] using hc
      · simpa [Addr.add, h0] using hc
    have hlt : i < zs.length := by omega
    have hm : zs.getD i 0 ∈ zs := by simp [List.getD, List.getElem?_eq_getElem hlt]
    obtain ⟨z0, z1⟩ := bounds_u8 (hwz _ hm)
    exact ⟨b, off, zs.getD i 0, rfl, World.block_lt_of_cell? w _ hc', hc', z0, z1⟩

/-! ### STEP 1: THE WALK: the Go text returns true, AND WRITES NOTHING THAT WAS THERE: 'Below w.heap.size w w'' (Derived/Below.lean: '.refl', '.alloc', '.drew', '.setCell' at a new block, '.trans'). Open each 'IsRow' by 'rcases' AHEAD of 'go_enter'; part every test ahead of the walk. -/
set_option maxHeartbeats 32000000 in
theorem walk (a0 : Option Addr) (len0 cap0 : Nat) (z0 : List Int) (w : World) (w0 : IsRow .u8 w a0 len0 cap0 z0) :
    Calls Try.prog 7 #[.slice a0 len0 cap0] w fun e w' => e = .returned (.bool true) ∧ Below w.heap.size w w' := by
  have row := row_of w0
  by_cases hs : len0 ≤ 4096
  · go_enter Try.func7, Try.ntmps7
    go_upto_region 4 with (first
      | (go_at_call 34; refine (drawQueue_any cap0 hs row (Nat.le_refl _)).mono ?_; rintro e vD ⟨ad, c, fs, at', fresh, i, n, rfl, t8⟩; have T8 : Hid (T8In w vD ad c fs) := t8; have hbw := t8.2.2.2; clear t8)
      | go_in)
    have C : Hid (Cells vD []) := trivial
    have F3 := T8.out.fls
    have hl4 := T8.out.2.1
    have hle := T8.out.2.2.1
    have hm3 : fs.length ≤ 4611686018427387904 := by omega
    have hf3 : ∀ f ∈ fs, f.2.2.length ≤ 4611686018427387904 := fun f hf => by have := hle f hf; omega
    obtain ⟨v3, hv⟩ : ∃ v, v = vD.alloc (.cells #[.slice ad fs.length c, .int .i64 at', .bool fresh] 48) := ⟨_, rfl⟩
    rw [← hv]
    have hbA : Below vD.heap.size vD v3 := by rw [hv]; exact new_below _ _
    have cA0 : v3.cell? ⟨vD.heap.size, 0, none⟩ = some (.slice ad fs.length c) := by rw [hv]; go_simp
    have cA1 : v3.cell? ⟨vD.heap.size, 1, none⟩ = some (.int .i64 at') := by rw [hv]; go_simp
    have cA2 : v3.cell? ⟨vD.heap.size, 2, none⟩ = some (.bool fresh) := by rw [hv]; go_simp
    have fA : ∀ o : Nat, v3.frozen? ⟨vD.heap.size, o, none⟩ = false := fun o => by rw [hv]; go_simp
    have zA : vD.heap.size < v3.heap.size := by rw [hv]; simp
    clear hv
    obtain ⟨b3, hb3⟩ : ∃ b, b = vD.heap.size := ⟨_, rfl⟩
    rw [← hb3] at cA0 cA1 cA2 fA ⊢
    have yb3 : b3 < v3.heap.size := by omega
    have Hb3 : Hid (b3 = vD.heap.size) := hb3
    clear hb3
    have hbw := below_step hbw hbA
    have C : Hid (Cells v3 [(b3, 0, .slice ad fs.length c), (b3, 1, .int .i64 at'), (b3, 2, .bool fresh)]) := by
      obtain ⟨_⟩ := C.out.next hbA
      exact ⟨⟨yb3, cA0⟩, ⟨yb3, cA1⟩, ⟨yb3, cA2⟩, trivial⟩
    have ⟨⟨kz0, k0⟩, ⟨kz1, k1⟩, ⟨kz2, k2⟩, _⟩ := C.out
    have F3 := F3.here hbA
    have zw := hbw.size
    clear cA0 cA1 cA2 fA zA hbA
    cases hq : queB fs at' fresh i n
    · obtain ⟨ys, hys⟩ : ∃ ys : List F8, ys = [] := ⟨_, rfl⟩
      have HF : Hid (Few ys) := by rw [hys]; exact few_nil
      have HY0 : Hid (ys.length = 0) := by rw [hys]; rfl
      have HI : Hid (∀ (w : World) (a : Option Addr) (c : Nat), Fls w.heap.size w a fs → Calls Try.prog 35 #[turnV a fs.length c at' fresh, .int .i64 i, .int .i64 n] w (TurnPost w ys 0 false false)) := fun w a c h => by
        have h' := iQueue_any c at' fresh i n h hm3 hf3
        rw [hq, if_neg (by decide), if_neg (by decide), Bool.false_and] at h'
        rw [hys]
        exact h'
      have HS : Hid (∀ (w : World) (a : Option Addr) (c : Nat), Fls w.heap.size w a fs → Calls Try.prog 36 #[turnV a fs.length c at' fresh, .int .i64 i, .int .i64 n] w (TurnPost w ys 0 false false)) := fun w a c h => by
        have h' := specQueue_any c at' fresh i n h hm3 hf3
        rw [hq, if_neg (by decide), if_neg (by decide), Bool.false_and] at h'
        rw [hys]
        exact h'
      have HL2 : Hid (∀ (w : World) (a : Option Addr) (c : Nat), Fls w.heap.size w a ys → Calls Try.prog 26 #[turnV a ys.length c 0 false, .agg #[.slice none 0 0, .int .i64 0, .bool false]] w fun e w' => e = .returned (.bool true) ∧ Below w.heap.size w w') := fun w a c h => by
        have h' := likeT_same (a2 := none) c 0 0 false h (by rw [hys]; exact Fls.nil _ _ _) HF.out.len HF.out.each
        rw [HY0.out] at h' ⊢
        exact h'
      clear hq hys
      go_upto_region 5 with (first
        | (go_at_call 35; refine (HI.out _ _ _ (F3.here (by go_grown))).mono ?_; rintro e vI ⟨a6, c6, rfl, tvx, hbP⟩; have F6 := (TV.fls tvx).2; clear tvx; have hbw := below_step (w := w) (by go_grown) hbP; have C : Hid (Cells vI [(b3, 0, .slice ad fs.length c), (b3, 1, .int .i64 at'), (b3, 2, .bool fresh)]) := C.out.next (below_step (by go_grown) hbP); have ⟨⟨kz0, k0⟩, ⟨kz1, k1⟩, ⟨kz2, k2⟩, _⟩ := C.out; have F3 := F3.here (below_step (by go_grown) hbP); have zw := hbw.size))
      obtain ⟨v6, hv⟩ : ∃ v, v = vI.alloc (.cells #[.slice a6 ys.length c6, .int .i64 0, .bool false] 48) := ⟨_, rfl⟩
      rw [← hv]
      have hbA : Below vI.heap.size vI v6 := by rw [hv]; exact new_below _ _
      have cA0 : v6.cell? ⟨vI.heap.size, 0, none⟩ = some (.slice a6 ys.length c6) := by rw [hv]; go_simp
      have cA1 : v6.cell? ⟨vI.heap.size, 1, none⟩ = some (.int .i64 0) := by rw [hv]; go_simp
      have cA2 : v6.cell? ⟨vI.heap.size, 2, none⟩ = some (.bool false) := by rw [hv]; go_simp
      have fA : ∀ o : Nat, v6.frozen? ⟨vI.heap.size, o, none⟩ = false := fun o => by rw [hv]; go_simp
      have zA : vI.heap.size < v6.heap.size := by rw [hv]; simp
      clear hv
      obtain ⟨b6, hb6⟩ : ∃ b, b = vI.heap.size := ⟨_, rfl⟩
      rw [← hb6] at cA0 cA1 cA2 fA ⊢
      have yb6 : b6 < v6.heap.size := by omega
      have Hb6 : Hid (b6 = vI.heap.size) := hb6
      clear hb6
      have hbw := below_step hbw hbA
      have C : Hid (Cells v6 [(b3, 0, .slice ad fs.length c), (b3, 1, .int .i64 at'), (b3, 2, .bool fresh), (b6, 0, .slice a6 ys.length c6), (b6, 1, .int .i64 0), (b6, 2, .bool false)]) := by
        obtain ⟨c0, c1, c2, _⟩ := C.out.next hbA
        exact ⟨c0, c1, c2, ⟨yb6, cA0⟩, ⟨yb6, cA1⟩, ⟨yb6, cA2⟩, trivial⟩
      have ⟨⟨kz0, k0⟩, ⟨kz1, k1⟩, ⟨kz2, k2⟩, ⟨kz3, k3⟩, ⟨kz4, k4⟩, ⟨kz5, k5⟩, _⟩ := C.out
      have F3 := F3.here hbA
      have F6 := F6.here hbA
      have zw := hbw.size
      clear cA0 cA1 cA2 fA zA hbA
      go_upto_region 6 with (first
        | (go_at_call 36; refine (HS.out _ _ _ (F3.here (by go_grown))).mono ?_; rintro e vS ⟨a8, c8, rfl, tvx, hbP⟩; have F8 := (TV.fls tvx).2; clear tvx; have hbw := below_step (w := w) (by go_grown) hbP; have C : Hid (Cells vS [(b3, 0, .slice ad fs.length c), (b3, 1, .int .i64 at'), (b3, 2, .bool fresh), (b6, 0, .slice a6 ys.length c6), (b6, 1, .int .i64 0), (b6, 2, .bool false)]) := C.out.next (below_step (by go_grown) hbP); have ⟨⟨kz0, k0⟩, ⟨kz1, k1⟩, ⟨kz2, k2⟩, ⟨kz3, k3⟩, ⟨kz4, k4⟩, ⟨kz5, k5⟩, _⟩ := C.out; have F3 := F3.here (below_step (by go_grown) hbP); have F6 := F6.here (below_step (by go_grown) hbP); have zw := hbw.size))
      obtain ⟨v8, hv⟩ : ∃ v, v = vS.alloc (.cells #[.slice a8 ys.length c8, .int .i64 0, .bool false] 48) := ⟨_, rfl⟩
      rw [← hv]
      have hbA : Below vS.heap.size vS v8 := by rw [hv]; exact new_below _ _
      have cA0 : v8.cell? ⟨vS.heap.size, 0, none⟩ = some (.slice a8 ys.length c8) := by rw [hv]; go_simp
      have cA1 : v8.cell? ⟨vS.heap.size, 1, none⟩ = some (.int .i64 0) := by rw [hv]; go_simp
      have cA2 : v8.cell? ⟨vS.heap.size, 2, none⟩ = some (.bool false) := by rw [hv]; go_simp
      have fA : ∀ o : Nat, v8.frozen? ⟨vS.heap.size, o, none⟩ = false := fun o => by rw [hv]; go_simp
      have zA : vS.heap.size < v8.heap.size := by rw [hv]; simp
      clear hv
      obtain ⟨b8, hb8⟩ : ∃ b, b = vS.heap.size := ⟨_, rfl⟩
      rw [← hb8] at cA0 cA1 cA2 fA ⊢
      have yb8 : b8 < v8.heap.size := by omega
      have Hb8 : Hid (b8 = vS.heap.size) := hb8
      clear hb8
      have hbw := below_step hbw hbA
      have C : Hid (Cells v8 [(b3, 0, .slice ad fs.length c), (b3, 1, .int .i64 at'), (b3, 2, .bool fresh), (b6, 0, .slice a6 ys.length c6), (b6, 1, .int .i64 0), (b6, 2, .bool false), (b8, 0, .slice a8 ys.length c8), (b8, 1, .int .i64 0), (b8, 2, .bool false)]) := by
        obtain ⟨c0, c1, c2, c3, c4, c5, _⟩ := C.out.next hbA
        exact ⟨c0, c1, c2, c3, c4, c5, ⟨yb8, cA0⟩, ⟨yb8, cA1⟩, ⟨yb8, cA2⟩, trivial⟩
      have ⟨⟨kz0, k0⟩, ⟨kz1, k1⟩, ⟨kz2, k2⟩, ⟨kz3, k3⟩, ⟨kz4, k4⟩, ⟨kz5, k5⟩, ⟨kz6, k6⟩, ⟨kz7, k7⟩, ⟨kz8, k8⟩, _⟩ := C.out
      have F3 := F3.here hbA
      have F6 := F6.here hbA
      have F8 := F8.here hbA
      have zw := hbw.size
      clear cA0 cA1 cA2 fA zA hbA
      go_wp2_with (first
        | (go_at_call 26; have g0 := dL; refine (HL2.out _ _ _ (F6.here (by go_grown))).mono ?_; rintro e vM ⟨rfl, hbM⟩; have hbw := below_step (w := w) (by go_grown) hbM)
        | (go_at_call 26; refine (likeT_same _ _ 0 false (F6.here (by go_grown)) (F8.here (by go_grown)) HF.out.len HF.out.each).mono ?_; rintro e vL ⟨rfl, hbE⟩; have dL : True := trivial; have hbw := below_step (w := w) (by go_grown) hbE; have C : Hid (Cells vL [(b3, 0, .slice ad fs.length c), (b3, 1, .int .i64 at'), (b3, 2, .bool fresh), (b6, 0, .slice a6 ys.length c6), (b6, 1, .int .i64 0), (b6, 2, .bool false), (b8, 0, .slice a8 ys.length c8), (b8, 1, .int .i64 0), (b8, 2, .bool false)]) := C.out.next (below_step (by go_grown) hbE); have ⟨⟨kz0, k0⟩, ⟨kz1, k1⟩, ⟨kz2, k2⟩, ⟨kz3, k3⟩, ⟨kz4, k4⟩, ⟨kz5, k5⟩, ⟨kz6, k6⟩, ⟨kz7, k7⟩, ⟨kz8, k8⟩, _⟩ := C.out; have F3 := F3.here (below_step (by go_grown) hbE); have F6 := F6.here (below_step (by go_grown) hbE); have F8 := F8.here (below_step (by go_grown) hbE); have zw := hbw.size))
      go_ret
      exact ⟨rfl, hbw⟩
    · skip
      obtain ⟨m, g, QI⟩ := que_is hq
      have HQ : Hid (QueIs fs at' fresh i n m g) := QI
      obtain ⟨zs, hzs⟩ : ∃ zs, fs.set m g = zs := ⟨_, rfl⟩
      have hm := QI.lt
      have HZO : Hid (TurnsOk zs at' fresh) := by have h := QI.ok2; rw [hzs] at h; exact h
      have HZN : Hid (zs.length = fs.length) := by show zs.length = _; rw [← hzs, List.length_set]
      have HZW : Hid (waitTo zs zs.length = waitTo fs fs.length + n) := by have h := QI.wait; rw [hzs] at h; exact h
      have HZM : Hid (∀ h : m < zs.length, zs[m].2.2 = fs[m].2.2 ++ [n]) := fun h => by
        subst hzs
        rw [List.getElem_set_self]
        exact HQ.out.list
      have HF : Hid (Few zs) := few_of HZO.out.l1 (fun f hf => by
        obtain ⟨k, hk, rfl⟩ := List.mem_iff_getElem.1 hf
        have := (HZO.out.flow k hk).len
        omega)
      have hn1 := QI.size.1
      have hn2 := QI.size.2
      obtain rfl : i = (m : Int) := QI.num
      clear QI
      have HI : Hid (∀ (w : World) (a : Option Addr) (c : Nat), Fls w.heap.size w a fs → Calls Try.prog 35 #[turnV a fs.length c at' fresh, .int .i64 (m : Int), .int .i64 n] w (TurnPost w zs at' fresh true)) := fun w a c h => by
        have h' := iQueue_any c at' fresh (m : Int) n h hm3 hf3
        rw [hq, if_pos rfl, if_pos rfl, Bool.true_and, HQ.out.same, hzs] at h'
        exact h'
      have HS : Hid (∀ (w : World) (a : Option Addr) (c : Nat), Fls w.heap.size w a fs → Calls Try.prog 36 #[turnV a fs.length c at' fresh, .int .i64 (m : Int), .int .i64 n] w (TurnPost w zs at' fresh true)) := fun w a c h => by
        have h' := specQueue_any c at' fresh (m : Int) n h hm3 hf3
        rw [hq, if_pos rfl, if_pos rfl, Bool.true_and, HQ.out.same, hzs] at h'
        exact h'
      clear hq hzs
      go_upto_region 5 with (first
        | (go_at_call 35; refine (HI.out _ _ _ (F3.here (by go_grown))).mono ?_; rintro e vI ⟨a6, c6, rfl, tvx, hbP⟩; have F6 := (TV.fls tvx).2; clear tvx; have hbw := below_step (w := w) (by go_grown) hbP; have C : Hid (Cells vI [(b3, 0, .slice ad fs.length c), (b3, 1, .int .i64 at'), (b3, 2, .bool fresh)]) := C.out.next (below_step (by go_grown) hbP); have ⟨⟨kz0, k0⟩, ⟨kz1, k1⟩, ⟨kz2, k2⟩, _⟩ := C.out; have F3 := F3.here (below_step (by go_grown) hbP); have zw := hbw.size))
      obtain ⟨v6, hv⟩ : ∃ v, v = vI.alloc (.cells #[.slice a6 zs.length c6, .int .i64 at', .bool fresh] 48) := ⟨_, rfl⟩
      rw [← hv]
      have hbA : Below vI.heap.size vI v6 := by rw [hv]; exact new_below _ _
      have cA0 : v6.cell? ⟨vI.heap.size, 0, none⟩ = some (.slice a6 zs.length c6) := by rw [hv]; go_simp
      have cA1 : v6.cell? ⟨vI.heap.size, 1, none⟩ = some (.int .i64 at') := by rw [hv]; go_simp
      have cA2 : v6.cell? ⟨vI.heap.size, 2, none⟩ = some (.bool fresh) := by rw [hv]; go_simp
      have fA : ∀ o : Nat, v6.frozen? ⟨vI.heap.size, o, none⟩ = false := fun o => by rw [hv]; go_simp
      have zA : vI.heap.size < v6.heap.size := by rw [hv]; simp
      clear hv
      obtain ⟨b6, hb6⟩ : ∃ b, b = vI.heap.size := ⟨_, rfl⟩
      rw [← hb6] at cA0 cA1 cA2 fA ⊢
      have yb6 : b6 < v6.heap.size := by omega
      have Hb6 : Hid (b6 = vI.heap.size) := hb6
      clear hb6
      have hbw := below_step hbw hbA
      have C : Hid (Cells v6 [(b3, 0, .slice ad fs.length c), (b3, 1, .int .i64 at'), (b3, 2, .bool fresh), (b6, 0, .slice a6 zs.length c6), (b6, 1, .int .i64 at'), (b6, 2, .bool fresh)]) := by
        obtain ⟨c0, c1, c2, _⟩ := C.out.next hbA
        exact ⟨c0, c1, c2, ⟨yb6, cA0⟩, ⟨yb6, cA1⟩, ⟨yb6, cA2⟩, trivial⟩
      have ⟨⟨kz0, k0⟩, ⟨kz1, k1⟩, ⟨kz2, k2⟩, ⟨kz3, k3⟩, ⟨kz4, k4⟩, ⟨kz5, k5⟩, _⟩ := C.out
      have F3 := F3.here hbA
      have F6 := F6.here hbA
      have zw := hbw.size
      clear cA0 cA1 cA2 fA zA hbA
      go_upto_region 6 with (first
        | (go_at_call 36; refine (HS.out _ _ _ (F3.here (by go_grown))).mono ?_; rintro e vS ⟨a8, c8, rfl, tvx, hbP⟩; have F8 := (TV.fls tvx).2; clear tvx; have hbw := below_step (w := w) (by go_grown) hbP; have C : Hid (Cells vS [(b3, 0, .slice ad fs.length c), (b3, 1, .int .i64 at'), (b3, 2, .bool fresh), (b6, 0, .slice a6 zs.length c6), (b6, 1, .int .i64 at'), (b6, 2, .bool fresh)]) := C.out.next (below_step (by go_grown) hbP); have ⟨⟨kz0, k0⟩, ⟨kz1, k1⟩, ⟨kz2, k2⟩, ⟨kz3, k3⟩, ⟨kz4, k4⟩, ⟨kz5, k5⟩, _⟩ := C.out; have F3 := F3.here (below_step (by go_grown) hbP); have F6 := F6.here (below_step (by go_grown) hbP); have zw := hbw.size))
      obtain ⟨v8, hv⟩ : ∃ v, v = vS.alloc (.cells #[.slice a8 zs.length c8, .int .i64 at', .bool fresh] 48) := ⟨_, rfl⟩
      rw [← hv]
      have hbA : Below vS.heap.size vS v8 := by rw [hv]; exact new_below _ _
      have cA0 : v8.cell? ⟨vS.heap.size, 0, none⟩ = some (.slice a8 zs.length c8) := by rw [hv]; go_simp
      have cA1 : v8.cell? ⟨vS.heap.size, 1, none⟩ = some (.int .i64 at') := by rw [hv]; go_simp
      have cA2 : v8.cell? ⟨vS.heap.size, 2, none⟩ = some (.bool fresh) := by rw [hv]; go_simp
      have fA : ∀ o : Nat, v8.frozen? ⟨vS.heap.size, o, none⟩ = false := fun o => by rw [hv]; go_simp
      have zA : vS.heap.size < v8.heap.size := by rw [hv]; simp
      clear hv
      obtain ⟨b8, hb8⟩ : ∃ b, b = vS.heap.size := ⟨_, rfl⟩
      rw [← hb8] at cA0 cA1 cA2 fA ⊢
      have yb8 : b8 < v8.heap.size := by omega
      have Hb8 : Hid (b8 = vS.heap.size) := hb8
      clear hb8
      have hbw := below_step hbw hbA
      have C : Hid (Cells v8 [(b3, 0, .slice ad fs.length c), (b3, 1, .int .i64 at'), (b3, 2, .bool fresh), (b6, 0, .slice a6 zs.length c6), (b6, 1, .int .i64 at'), (b6, 2, .bool fresh), (b8, 0, .slice a8 zs.length c8), (b8, 1, .int .i64 at'), (b8, 2, .bool fresh)]) := by
        obtain ⟨c0, c1, c2, c3, c4, c5, _⟩ := C.out.next hbA
        exact ⟨c0, c1, c2, c3, c4, c5, ⟨yb8, cA0⟩, ⟨yb8, cA1⟩, ⟨yb8, cA2⟩, trivial⟩
      have ⟨⟨kz0, k0⟩, ⟨kz1, k1⟩, ⟨kz2, k2⟩, ⟨kz3, k3⟩, ⟨kz4, k4⟩, ⟨kz5, k5⟩, ⟨kz6, k6⟩, ⟨kz7, k7⟩, ⟨kz8, k8⟩, _⟩ := C.out
      have F3 := F3.here hbA
      have F6 := F6.here hbA
      have F8 := F8.here hbA
      have zw := hbw.size
      clear cA0 cA1 cA2 fA zA hbA
      have hmz : m < zs.length := by have := HZN.out; omega
      have hmi : (m : Int) < (fs.length : Int) := by omega
      have hmi' : (m : Int) < (zs.length : Int) := by omega
      go_upto_region 10 with (first
        | (go_at_call 26; refine (likeT_same _ _ at' fresh (F6.here (by go_grown)) (F8.here (by go_grown)) HF.out.len HF.out.each).mono ?_; rintro e vL ⟨rfl, hbE⟩; have hbw := below_step (w := w) (by go_grown) hbE; have C : Hid (Cells vL [(b3, 0, .slice ad fs.length c), (b3, 1, .int .i64 at'), (b3, 2, .bool fresh), (b6, 0, .slice a6 zs.length c6), (b6, 1, .int .i64 at'), (b6, 2, .bool fresh), (b8, 0, .slice a8 zs.length c8), (b8, 1, .int .i64 at'), (b8, 2, .bool fresh)]) := C.out.next (below_step (by go_grown) hbE); have ⟨⟨kz0, k0⟩, ⟨kz1, k1⟩, ⟨kz2, k2⟩, ⟨kz3, k3⟩, ⟨kz4, k4⟩, ⟨kz5, k5⟩, ⟨kz6, k6⟩, ⟨kz7, k7⟩, ⟨kz8, k8⟩, _⟩ := C.out; have F3 := F3.here (below_step (by go_grown) hbE); have F6 := F6.here (below_step (by go_grown) hbE); have F8 := F8.here (below_step (by go_grown) hbE); have zw := hbw.size))
      obtain ⟨bt, ot, st, ct, hat, hbt, t0, t1, t2, mt⟩ := F3 m hm
      obtain ⟨bx, ox, sx, sc, hax, xb, x0, x1, x2, mx⟩ := F6 m hmz
      subst hat
      subst hax
      rw [HZM.out hmz] at x2 mx
      obtain ⟨KK, hKK⟩ : ∃ KK, fs[m].2.2.length = KK := ⟨_, rfl⟩
      have hK1 : KK ≤ 101 := by rw [← hKK]; exact hle _ (List.getElem_mem hm)
      obtain ⟨bs, os, hsx, xs', d2⟩ := mx KK (by rw [List.length_append, hKK]; simp)
      subst hsx
      have hlast : (fs[m].2.2 ++ [n])[KK]'(by rw [List.length_append, hKK]; simp) = n := by
        subst hKK
        simp
      rw [hlast] at d2
      rw [hKK] at t2
      rw [List.length_append, hKK] at x2
      rw [show KK + [n].length = KK + 1 from rfl] at x2
      clear hKK hlast mx mt t0 t1 x0 x1 F8
      go_upto_region 11 with (fail)
      have hWZ : waitOf zs at' fresh = waitTo fs fs.length + n := by unfold waitOf; rw [if_pos (turns_yes HZO.out)]; exact HZW.out
      have hWF : waitOf fs at' fresh = waitTo fs fs.length := by unfold waitOf; rw [if_pos (turns_yes HQ.out.ok)]
      have HWZ : Hid (waitOf zs at' fresh = waitTo fs fs.length + n) := hWZ
      have HWF : Hid (waitOf fs at' fresh = waitTo fs fs.length) := hWF
      have hWB := waitTo_in HQ.out.ok.flow fs.length (Nat.le_refl _)
      obtain ⟨WT, hWT⟩ : ∃ x, waitTo fs fs.length = x := ⟨_, rfl⟩
      rw [hWT] at HWZ HWF hWB
      have hW0 := hWB.1
      have hW1 : WT ≤ 4500000 := by have := hWB.2; omega
      have htz : turnsB zs at' fresh = true := turns_yes HZO.out
      have HTZ : Hid (turnsB zs at' fresh = true) := htz
      have hw1 : IntKind.i64.wrap (WT + n) = WT + n := by rw [IntKind.wrap_i64]; omega
      have hw2 : IntKind.i64.wrap ((KK : Int) + 1) = (KK : Int) + 1 := by rw [IntKind.wrap_i64]; omega
      have hKl : (KK : Int) < (KK : Int) + 1 := by omega
      clear hWT hWB hWZ hWF htz
      refine wp_region_held_drew (S := fun w' => w'.cell? ⟨b3, 0, none⟩ = some (.slice (some ⟨bt, ot, none⟩) fs.length c) ∧ w'.cell? ⟨b3, 1, none⟩ = some (.int .i64 at') ∧ w'.cell? ⟨b3, 2, none⟩ = some (.bool fresh) ∧ w'.cell? ⟨b6, 0, none⟩ = some (.slice (some ⟨bx, ox, none⟩) zs.length c6) ∧ w'.cell? ⟨b6, 1, none⟩ = some (.int .i64 at') ∧ w'.cell? ⟨b6, 2, none⟩ = some (.bool fresh) ∧ w'.cell? ⟨bx, ox + m * 3 + 2, none⟩ = some (.slice (some ⟨bs, os, none⟩) (KK + 1) sc) ∧ w'.cell? ⟨bs, os + KK, none⟩ = some (.int .i64 n)) (by kernel_rfl) (⟨k0, k1, k2, k3, k4, k5, x2, d2⟩) (fun hS => ?_)
      refine wpAnyH_take (i := 0) (v := ?_) rfl (by kernel_rfl) (by kernel_rfl) (by kernel_rfl) (fun _ _ _ h => h) (Or.inl ⟨by rfl, ?_⟩) (by assumption) ?_
      rotate_left 1
      · (intro w' hSw; (try dsimp only at hSw); go_simp; try with_reducible rfl)
      try simp only [Act.put, List.setIfInBounds_toArray, List.set_cons_zero, List.set_cons_succ, List.getElem_toArray, List.getElem_cons_succ, List.getElem_cons_zero]
      refine wpAnyH_ready (rs := [1]) (by kernel_rfl) (by simp) (AllReadyH.cons rfl (fun K hK => ?_) AllReadyH.nil)
      go_simp
      (refine (iTurnsOk_any _ at' fresh (F6.here (by go_grown)) HF.out.len HF.out.each).mono ?_; rintro e vT ⟨rfl, hbE⟩; rw [HTZ.out]; have hbw := below_step (w := w) (by go_grown) hbE; have C : Hid (Cells vT [(b3, 0, .slice (some ⟨bt, ot, none⟩) fs.length c), (b3, 1, .int .i64 at'), (b3, 2, .bool fresh), (b6, 0, .slice (some ⟨bx, ox, none⟩) zs.length c6), (b6, 1, .int .i64 at'), (b6, 2, .bool fresh), (b8, 0, .slice a8 zs.length c8), (b8, 1, .int .i64 at'), (b8, 2, .bool fresh)]) := C.out.next (below_step (by go_grown) hbE); have ⟨⟨kz0, k0⟩, ⟨kz1, k1⟩, ⟨kz2, k2⟩, ⟨kz3, k3⟩, ⟨kz4, k4⟩, ⟨kz5, k5⟩, ⟨kz6, k6⟩, ⟨kz7, k7⟩, ⟨kz8, k8⟩, _⟩ := C.out; have F3 := F3.here (below_step (by go_grown) hbE); have F6 := F6.here (below_step (by go_grown) hbE); have zw := hbw.size; have x2 := (hbE.cell (p := ⟨bx, ox + m * 3 + 2, none⟩) (by first | exact xb | (go_simp; exact xb) | (simp; omega))).trans x2; have d2 := (hbE.cell (p := ⟨bs, os + KK, none⟩) (by first | exact xs' | (go_simp; exact xs') | (simp; omega))).trans d2; have xb := Nat.lt_of_lt_of_le xb hbE.size; have xs' := Nat.lt_of_lt_of_le xs' hbE.size; have hS := (show (fun w' => w'.cell? ⟨b3, 0, none⟩ = some (.slice (some ⟨bt, ot, none⟩) fs.length c) ∧ w'.cell? ⟨b3, 1, none⟩ = some (.int .i64 at') ∧ w'.cell? ⟨b3, 2, none⟩ = some (.bool fresh) ∧ w'.cell? ⟨b6, 0, none⟩ = some (.slice (some ⟨bx, ox, none⟩) zs.length c6) ∧ w'.cell? ⟨b6, 1, none⟩ = some (.int .i64 at') ∧ w'.cell? ⟨b6, 2, none⟩ = some (.bool fresh) ∧ w'.cell? ⟨bx, ox + m * 3 + 2, none⟩ = some (.slice (some ⟨bs, os, none⟩) (KK + 1) sc) ∧ w'.cell? ⟨bs, os + KK, none⟩ = some (.int .i64 n)) vT from ⟨k0, k1, k2, k3, k4, k5, x2, d2⟩))
      refine hK.out _ _ (by assumption) (fun _ => ?_)
      try simp only [Act.put, List.setIfInBounds_toArray, List.set_cons_zero, List.set_cons_succ, List.getElem_toArray, List.getElem_cons_succ, List.getElem_cons_zero]
      refine wpAnyH_take (i := 2) (v := ?_) rfl (by kernel_rfl) (by kernel_rfl) (by kernel_rfl) (fun _ _ _ h => h) (Or.inl ⟨by rfl, ?_⟩) (by assumption) ?_
      rotate_left 1
      · (intro w' hSw; (try dsimp only at hSw); go_simp; try with_reducible rfl)
      try simp only [Act.put, List.setIfInBounds_toArray, List.set_cons_zero, List.set_cons_succ, List.getElem_toArray, List.getElem_cons_succ, List.getElem_cons_zero]
      refine wpAnyH_take (i := 3) (v := ?_) rfl (by kernel_rfl) (by kernel_rfl) (by kernel_rfl) (fun _ _ _ h => h) (Or.inl ⟨by rfl, ?_⟩) (by assumption) ?_
      rotate_left 1
      · (intro w' hSw; (try dsimp only at hSw); go_simp; try with_reducible rfl)
      try simp only [Act.put, List.setIfInBounds_toArray, List.set_cons_zero, List.set_cons_succ, List.getElem_toArray, List.getElem_cons_succ, List.getElem_cons_zero]
      refine wpAnyH_take (i := 4) (v := ?_) rfl (by kernel_rfl) (by kernel_rfl) (by kernel_rfl) (fun _ _ _ h => h) (Or.inl ⟨by rfl, ?_⟩) (by assumption) ?_
      rotate_left 1
      · (intro w' hSw; (try dsimp only at hSw); go_simp; try with_reducible rfl)
      try simp only [Act.put, List.setIfInBounds_toArray, List.set_cons_zero, List.set_cons_succ, List.getElem_toArray, List.getElem_cons_succ, List.getElem_cons_zero]
      refine wpAnyH_take (i := 5) (v := ?_) rfl (by kernel_rfl) (by kernel_rfl) (by kernel_rfl) (fun _ _ _ h => h) (Or.inl ⟨by rfl, ?_⟩) (by assumption) ?_
      rotate_left 1
      · (intro w' hSw; (try dsimp only at hSw); go_simp; try with_reducible rfl)
      try simp only [Act.put, List.setIfInBounds_toArray, List.set_cons_zero, List.set_cons_succ, List.getElem_toArray, List.getElem_cons_succ, List.getElem_cons_zero]
      refine wpAnyH_take (i := 6) (v := ?_) rfl (by kernel_rfl) (by kernel_rfl) (by kernel_rfl) (fun _ _ _ h => h) (Or.inl ⟨by rfl, ?_⟩) (by assumption) ?_
      rotate_left 1
      · (intro w' hSw; (try dsimp only at hSw); go_simp; try with_reducible rfl)
      try simp only [Act.put, List.setIfInBounds_toArray, List.set_cons_zero, List.set_cons_succ, List.getElem_toArray, List.getElem_cons_succ, List.getElem_cons_zero]
      refine wpAnyH_take (i := 7) (v := ?_) rfl (by kernel_rfl) (by kernel_rfl) (by kernel_rfl) (fun _ _ _ h => h) (Or.inl ⟨by rfl, ?_⟩) (by assumption) ?_
      rotate_left 1
      · (intro w' hSw; (try dsimp only at hSw); go_simp; try with_reducible rfl)
      try simp only [Act.put, List.setIfInBounds_toArray, List.set_cons_zero, List.set_cons_succ, List.getElem_toArray, List.getElem_cons_succ, List.getElem_cons_zero]
      refine wpAnyH_take (i := 8) (v := ?_) rfl (by kernel_rfl) (by kernel_rfl) (by kernel_rfl) (fun _ _ _ h => h) (Or.inl ⟨by rfl, ?_⟩) (by assumption) ?_
      rotate_left 1
      · (intro w' hSw; (try dsimp only at hSw); go_simp; try with_reducible rfl)
      try simp only [Act.put, List.setIfInBounds_toArray, List.set_cons_zero, List.set_cons_succ, List.getElem_toArray, List.getElem_cons_succ, List.getElem_cons_zero]
      refine wpAnyH_take (i := 9) (v := ?_) rfl (by kernel_rfl) (by kernel_rfl) (by kernel_rfl) (fun _ _ _ h => h) (Or.inl ⟨by rfl, ?_⟩) (by assumption) ?_
      rotate_left 1
      · (intro w' hSw; (try dsimp only at hSw); go_simp; try with_reducible rfl)
      try simp only [Act.put, List.setIfInBounds_toArray, List.set_cons_zero, List.set_cons_succ, List.getElem_toArray, List.getElem_cons_succ, List.getElem_cons_zero]
      refine wpAnyH_take (i := 10) (v := ?_) rfl (by kernel_rfl) (by kernel_rfl) (by kernel_rfl) (fun _ _ _ h => h) (Or.inl ⟨by rfl, ?_⟩) (by assumption) ?_
      rotate_left 1
      · (intro w' hSw; (try dsimp only at hSw); go_simp; try with_reducible rfl)
      try simp only [Act.put, List.setIfInBounds_toArray, List.set_cons_zero, List.set_cons_succ, List.getElem_toArray, List.getElem_cons_succ, List.getElem_cons_zero]
      refine wpAnyH_take (i := 11) (v := ?_) rfl (by kernel_rfl) (by kernel_rfl) (by kernel_rfl) (fun _ _ _ h => h) (Or.inl ⟨by rfl, ?_⟩) (by assumption) ?_
      rotate_left 1
      · (intro w' hSw; (try dsimp only at hSw); go_simp; try with_reducible rfl)
      try simp only [Act.put, List.setIfInBounds_toArray, List.set_cons_zero, List.set_cons_succ, List.getElem_toArray, List.getElem_cons_succ, List.getElem_cons_zero]
      refine wpAnyH_take (i := 12) (v := ?_) rfl (by kernel_rfl) (by kernel_rfl) (by kernel_rfl) (fun _ _ _ h => h) (Or.inl ⟨by rfl, ?_⟩) (by assumption) ?_
      rotate_left 1
      · (intro w' hSw; (try dsimp only at hSw); go_simp; try with_reducible rfl)
      try simp only [Act.put, List.setIfInBounds_toArray, List.set_cons_zero, List.set_cons_succ, List.getElem_toArray, List.getElem_cons_succ, List.getElem_cons_zero]
      refine wpAnyH_take (i := 13) (v := ?_) rfl (by kernel_rfl) (by kernel_rfl) (by kernel_rfl) (fun _ _ _ h => h) (Or.inl ⟨by rfl, ?_⟩) (by assumption) ?_
      rotate_left 1
      · (intro w' hSw; (try dsimp only at hSw); go_simp; try with_reducible rfl)
      try simp only [Act.put, List.setIfInBounds_toArray, List.set_cons_zero, List.set_cons_succ, List.getElem_toArray, List.getElem_cons_succ, List.getElem_cons_zero]
      refine wpAnyH_take (i := 14) (v := ?_) rfl (by kernel_rfl) (by kernel_rfl) (by kernel_rfl) (fun _ _ _ h => h) (Or.inl ⟨by rfl, ?_⟩) (by assumption) ?_
      rotate_left 1
      · (intro w' hSw; (try dsimp only at hSw); go_simp; try with_reducible rfl)
      try simp only [Act.put, List.setIfInBounds_toArray, List.set_cons_zero, List.set_cons_succ, List.getElem_toArray, List.getElem_cons_succ, List.getElem_cons_zero]
      refine wpAnyH_take (i := 15) (v := ?_) rfl (by kernel_rfl) (by kernel_rfl) (by kernel_rfl) (fun _ _ _ h => h) (Or.inl ⟨by rfl, ?_⟩) (by assumption) ?_
      rotate_left 1
      · (intro w' hSw; (try dsimp only at hSw); go_simp; try with_reducible rfl)
      try simp only [Act.put, List.setIfInBounds_toArray, List.set_cons_zero, List.set_cons_succ, List.getElem_toArray, List.getElem_cons_succ, List.getElem_cons_zero]
      refine wpAnyH_take (i := 16) (v := ?_) rfl (by kernel_rfl) (by kernel_rfl) (by kernel_rfl) (fun _ _ _ h => h) (Or.inl ⟨by rfl, ?_⟩) (by assumption) ?_
      rotate_left 1
      · (intro w' hSw; (try dsimp only at hSw); go_simp; try with_reducible rfl)
      try simp only [Act.put, List.setIfInBounds_toArray, List.set_cons_zero, List.set_cons_succ, List.getElem_toArray, List.getElem_cons_succ, List.getElem_cons_zero]
      refine wpAnyH_take (i := 17) (v := ?_) rfl (by kernel_rfl) (by kernel_rfl) (by kernel_rfl) (fun _ _ _ h => h) (Or.inl ⟨by rfl, ?_⟩) (by assumption) ?_
      rotate_left 1
      · (intro w' hSw; (try dsimp only at hSw); go_simp; try with_reducible rfl)
      try simp only [Act.put, List.setIfInBounds_toArray, List.set_cons_zero, List.set_cons_succ, List.getElem_toArray, List.getElem_cons_succ, List.getElem_cons_zero]
      refine wpAnyH_take (i := 18) (v := ?_) rfl (by kernel_rfl) (by kernel_rfl) (by kernel_rfl) (fun _ _ _ h => h) (Or.inl ⟨by rfl, ?_⟩) (by assumption) ?_
      rotate_left 1
      · (intro w' hSw; (try dsimp only at hSw); go_simp; try with_reducible rfl)
      try simp only [Act.put, List.setIfInBounds_toArray, List.set_cons_zero, List.set_cons_succ, List.getElem_toArray, List.getElem_cons_succ, List.getElem_cons_zero]
      refine wpAnyH_take (i := 19) (v := ?_) rfl (by kernel_rfl) (by kernel_rfl) (by kernel_rfl) (fun _ _ _ h => h) (Or.inl ⟨by rfl, ?_⟩) (by assumption) ?_
      rotate_left 1
      · (intro w' hSw; (try dsimp only at hSw); go_simp; try with_reducible rfl)
      try simp only [Act.put, List.setIfInBounds_toArray, List.set_cons_zero, List.set_cons_succ, List.getElem_toArray, List.getElem_cons_succ, List.getElem_cons_zero]
      refine wpAnyH_take (i := 20) (v := ?_) rfl (by kernel_rfl) (by kernel_rfl) (by kernel_rfl) (fun _ _ _ h => h) (Or.inl ⟨by rfl, ?_⟩) (by assumption) ?_
      rotate_left 1
      · (intro w' hSw; (try dsimp only at hSw); go_simp; try with_reducible rfl)
      try simp only [Act.put, List.setIfInBounds_toArray, List.set_cons_zero, List.set_cons_succ, List.getElem_toArray, List.getElem_cons_succ, List.getElem_cons_zero]
      refine wpAnyH_take (i := 21) (v := ?_) rfl (by kernel_rfl) (by kernel_rfl) (by kernel_rfl) (fun _ _ _ h => h) (Or.inl ⟨by rfl, ?_⟩) (by assumption) ?_
      rotate_left 1
      · (intro w' hSw; (try dsimp only at hSw); go_simp; try with_reducible rfl)
      try simp only [Act.put, List.setIfInBounds_toArray, List.set_cons_zero, List.set_cons_succ, List.getElem_toArray, List.getElem_cons_succ, List.getElem_cons_zero]
      refine wpAnyH_take (i := 22) (v := ?_) rfl (by kernel_rfl) (by kernel_rfl) (by kernel_rfl) (fun _ _ _ h => h) (Or.inl ⟨by rfl, ?_⟩) (by assumption) ?_
      rotate_left 1
      · (intro w' hSw; (try dsimp only at hSw); go_simp; try with_reducible rfl)
      try simp only [Act.put, List.setIfInBounds_toArray, List.set_cons_zero, List.set_cons_succ, List.getElem_toArray, List.getElem_cons_succ, List.getElem_cons_zero]
      refine wpAnyH_take (i := 23) (v := ?_) rfl (by kernel_rfl) (by kernel_rfl) (by kernel_rfl) (fun _ _ _ h => h) (Or.inl ⟨by rfl, ?_⟩) (by assumption) ?_
      rotate_left 1
      · (intro w' hSw; (try dsimp only at hSw); go_simp; try with_reducible rfl)
      try simp only [Act.put, List.setIfInBounds_toArray, List.set_cons_zero, List.set_cons_succ, List.getElem_toArray, List.getElem_cons_succ, List.getElem_cons_zero]
      refine wpAnyH_take (i := 24) (v := ?_) rfl (by kernel_rfl) (by kernel_rfl) (by kernel_rfl) (fun _ _ _ h => h) (Or.inl ⟨by rfl, ?_⟩) (by assumption) ?_
      rotate_left 1
      · (intro w' hSw; (try dsimp only at hSw); go_simp; try with_reducible rfl)
      try simp only [Act.put, List.setIfInBounds_toArray, List.set_cons_zero, List.set_cons_succ, List.getElem_toArray, List.getElem_cons_succ, List.getElem_cons_zero]
      refine wpAnyH_take (i := 25) (v := ?_) rfl (by kernel_rfl) (by kernel_rfl) (by kernel_rfl) (fun _ _ _ h => h) (Or.inl ⟨by rfl, ?_⟩) (by assumption) ?_
      rotate_left 1
      · (intro w' hSw; (try dsimp only at hSw); go_simp; try with_reducible rfl)
      try simp only [Act.put, List.setIfInBounds_toArray, List.set_cons_zero, List.set_cons_succ, List.getElem_toArray, List.getElem_cons_succ, List.getElem_cons_zero]
      refine wpAnyH_take (i := 26) (v := ?_) rfl (by kernel_rfl) (by kernel_rfl) (by kernel_rfl) (fun _ _ _ h => h) (Or.inl ⟨by rfl, ?_⟩) (by assumption) ?_
      rotate_left 1
      · (intro w' hSw; (try dsimp only at hSw); go_simp; try with_reducible rfl)
      try simp only [Act.put, List.setIfInBounds_toArray, List.set_cons_zero, List.set_cons_succ, List.getElem_toArray, List.getElem_cons_succ, List.getElem_cons_zero]
      refine wpAnyH_take (i := 27) (v := ?_) rfl (by kernel_rfl) (by kernel_rfl) (by kernel_rfl) (fun _ _ _ h => h) (Or.inl ⟨by rfl, ?_⟩) (by assumption) ?_
      rotate_left 1
      · (intro w' hSw; (try dsimp only at hSw); go_simp; try with_reducible rfl)
      try simp only [Act.put, List.setIfInBounds_toArray, List.set_cons_zero, List.set_cons_succ, List.getElem_toArray, List.getElem_cons_succ, List.getElem_cons_zero]
      refine wpAnyH_take (i := 28) (v := ?_) rfl (by kernel_rfl) (by kernel_rfl) (by kernel_rfl) (fun _ _ _ h => h) (Or.inl ⟨by rfl, ?_⟩) (by assumption) ?_
      rotate_left 1
      · (intro w' hSw; (try dsimp only at hSw); go_simp; try with_reducible rfl)
      try simp only [Act.put, List.setIfInBounds_toArray, List.set_cons_zero, List.set_cons_succ, List.getElem_toArray, List.getElem_cons_succ, List.getElem_cons_zero]
      refine wpAnyH_take (i := 30) (v := ?_) rfl (by kernel_rfl) (by kernel_rfl) (by kernel_rfl) (fun _ _ _ h => h) (Or.inl ⟨by rfl, ?_⟩) (by assumption) ?_
      rotate_left 1
      · (intro w' hSw; (try dsimp only at hSw); go_simp; try with_reducible rfl)
      try simp only [Act.put, List.setIfInBounds_toArray, List.set_cons_zero, List.set_cons_succ, List.getElem_toArray, List.getElem_cons_succ, List.getElem_cons_zero]
      refine wpAnyH_take (i := 32) (v := ?_) rfl (by kernel_rfl) (by kernel_rfl) (by kernel_rfl) (fun _ _ _ h => h) (Or.inl ⟨by rfl, ?_⟩) (by assumption) ?_
      rotate_left 1
      · (intro w' hSw; (try dsimp only at hSw); go_simp; try with_reducible rfl)
      try simp only [Act.put, List.setIfInBounds_toArray, List.set_cons_zero, List.set_cons_succ, List.getElem_toArray, List.getElem_cons_succ, List.getElem_cons_zero]
      refine wpAnyH_ready (rs := [29]) (by kernel_rfl) (by simp) (AllReadyH.cons rfl (fun K hK => ?_) AllReadyH.nil)
      go_simp
      (refine (iWaiting_any _ at' fresh (F6.here (by go_grown)) HF.out.len HF.out.each).mono ?_; rintro e vW ⟨rfl, hbE⟩; rw [HWZ.out]; have hbw := below_step (w := w) (by go_grown) hbE; have C : Hid (Cells vW [(b3, 0, .slice (some ⟨bt, ot, none⟩) fs.length c), (b3, 1, .int .i64 at'), (b3, 2, .bool fresh), (b6, 0, .slice (some ⟨bx, ox, none⟩) zs.length c6), (b6, 1, .int .i64 at'), (b6, 2, .bool fresh), (b8, 0, .slice a8 zs.length c8), (b8, 1, .int .i64 at'), (b8, 2, .bool fresh)]) := C.out.next (below_step (by go_grown) hbE); have ⟨⟨kz0, k0⟩, ⟨kz1, k1⟩, ⟨kz2, k2⟩, ⟨kz3, k3⟩, ⟨kz4, k4⟩, ⟨kz5, k5⟩, ⟨kz6, k6⟩, ⟨kz7, k7⟩, ⟨kz8, k8⟩, _⟩ := C.out; have F3 := F3.here (below_step (by go_grown) hbE); have F6 := F6.here (below_step (by go_grown) hbE); have zw := hbw.size; have x2 := (hbE.cell (p := ⟨bx, ox + m * 3 + 2, none⟩) (by first | exact xb | (go_simp; exact xb) | (simp; omega))).trans x2; have d2 := (hbE.cell (p := ⟨bs, os + KK, none⟩) (by first | exact xs' | (go_simp; exact xs') | (simp; omega))).trans d2; have xb := Nat.lt_of_lt_of_le xb hbE.size; have xs' := Nat.lt_of_lt_of_le xs' hbE.size; have hS := (show (fun w' => w'.cell? ⟨b3, 0, none⟩ = some (.slice (some ⟨bt, ot, none⟩) fs.length c) ∧ w'.cell? ⟨b3, 1, none⟩ = some (.int .i64 at') ∧ w'.cell? ⟨b3, 2, none⟩ = some (.bool fresh) ∧ w'.cell? ⟨b6, 0, none⟩ = some (.slice (some ⟨bx, ox, none⟩) zs.length c6) ∧ w'.cell? ⟨b6, 1, none⟩ = some (.int .i64 at') ∧ w'.cell? ⟨b6, 2, none⟩ = some (.bool fresh) ∧ w'.cell? ⟨bx, ox + m * 3 + 2, none⟩ = some (.slice (some ⟨bs, os, none⟩) (KK + 1) sc) ∧ w'.cell? ⟨bs, os + KK, none⟩ = some (.int .i64 n)) vW from ⟨k0, k1, k2, k3, k4, k5, x2, d2⟩))
      refine hK.out _ _ (by assumption) (fun _ => ?_)
      try simp only [Act.put, List.setIfInBounds_toArray, List.set_cons_zero, List.set_cons_succ, List.getElem_toArray, List.getElem_cons_succ, List.getElem_cons_zero]
      refine wpAnyH_ready (rs := [31]) (by kernel_rfl) (by simp) (AllReadyH.cons rfl (fun K hK => ?_) AllReadyH.nil)
      go_simp
      (refine (iWaiting_any _ at' fresh (F3.here (by go_grown)) hm3 hf3).mono ?_; rintro e vX ⟨rfl, hbE⟩; rw [HWF.out]; have hbw := below_step (w := w) (by go_grown) hbE; have C : Hid (Cells vX [(b3, 0, .slice (some ⟨bt, ot, none⟩) fs.length c), (b3, 1, .int .i64 at'), (b3, 2, .bool fresh), (b6, 0, .slice (some ⟨bx, ox, none⟩) zs.length c6), (b6, 1, .int .i64 at'), (b6, 2, .bool fresh), (b8, 0, .slice a8 zs.length c8), (b8, 1, .int .i64 at'), (b8, 2, .bool fresh)]) := C.out.next (below_step (by go_grown) hbE); have ⟨⟨kz0, k0⟩, ⟨kz1, k1⟩, ⟨kz2, k2⟩, ⟨kz3, k3⟩, ⟨kz4, k4⟩, ⟨kz5, k5⟩, ⟨kz6, k6⟩, ⟨kz7, k7⟩, ⟨kz8, k8⟩, _⟩ := C.out; have F3 := F3.here (below_step (by go_grown) hbE); have F6 := F6.here (below_step (by go_grown) hbE); have zw := hbw.size; have x2 := (hbE.cell (p := ⟨bx, ox + m * 3 + 2, none⟩) (by first | exact xb | (go_simp; exact xb) | (simp; omega))).trans x2; have d2 := (hbE.cell (p := ⟨bs, os + KK, none⟩) (by first | exact xs' | (go_simp; exact xs') | (simp; omega))).trans d2; have xb := Nat.lt_of_lt_of_le xb hbE.size; have xs' := Nat.lt_of_lt_of_le xs' hbE.size; have hS := (show (fun w' => w'.cell? ⟨b3, 0, none⟩ = some (.slice (some ⟨bt, ot, none⟩) fs.length c) ∧ w'.cell? ⟨b3, 1, none⟩ = some (.int .i64 at') ∧ w'.cell? ⟨b3, 2, none⟩ = some (.bool fresh) ∧ w'.cell? ⟨b6, 0, none⟩ = some (.slice (some ⟨bx, ox, none⟩) zs.length c6) ∧ w'.cell? ⟨b6, 1, none⟩ = some (.int .i64 at') ∧ w'.cell? ⟨b6, 2, none⟩ = some (.bool fresh) ∧ w'.cell? ⟨bx, ox + m * 3 + 2, none⟩ = some (.slice (some ⟨bs, os, none⟩) (KK + 1) sc) ∧ w'.cell? ⟨bs, os + KK, none⟩ = some (.int .i64 n)) vX from ⟨k0, k1, k2, k3, k4, k5, x2, d2⟩))
      refine hK.out _ _ (by assumption) (fun _ => ?_)
      try simp only [Act.put, List.setIfInBounds_toArray, List.set_cons_zero, List.set_cons_succ, List.getElem_toArray, List.getElem_cons_succ, List.getElem_cons_zero]
      refine wpAnyH_take (i := 33) (v := ?_) rfl (by kernel_rfl) (by kernel_rfl) (by kernel_rfl) (fun _ _ _ h => h) (Or.inl ⟨by rfl, ?_⟩) (by assumption) ?_
      rotate_left 1
      · (intro w' hSw; (try dsimp only at hSw); go_simp; try with_reducible rfl)
      try simp only [Act.put, List.setIfInBounds_toArray, List.set_cons_zero, List.set_cons_succ, List.getElem_toArray, List.getElem_cons_succ, List.getElem_cons_zero]
      refine wpAnyH_take (i := 34) (v := ?_) rfl (by kernel_rfl) (by kernel_rfl) (by kernel_rfl) (fun _ _ _ h => h) (Or.inl ⟨by rfl, ?_⟩) (by assumption) ?_
      rotate_left 1
      · (intro w' hSw; (try dsimp only at hSw); go_simp; try with_reducible rfl)
      try simp only [Act.put, List.setIfInBounds_toArray, List.set_cons_zero, List.set_cons_succ, List.getElem_toArray, List.getElem_cons_succ, List.getElem_cons_zero]
      refine wpAnyH_take (i := 35) (v := ?_) rfl (by kernel_rfl) (by kernel_rfl) (by kernel_rfl) (fun _ _ _ h => h) (Or.inl ⟨by rfl, ?_⟩) (by assumption) ?_
      rotate_left 1
      · (intro w' hSw; (try dsimp only at hSw); go_simp; try with_reducible rfl)
      try simp only [Act.put, List.setIfInBounds_toArray, List.set_cons_zero, List.set_cons_succ, List.getElem_toArray, List.getElem_cons_succ, List.getElem_cons_zero]
      refine wpAnyH_take (i := 36) (v := ?_) rfl (by kernel_rfl) (by kernel_rfl) (by kernel_rfl) (fun _ _ _ h => h) (Or.inl ⟨by rfl, ?_⟩) (by assumption) ?_
      rotate_left 1
      · (intro w' hSw; (try dsimp only at hSw); go_simp; try with_reducible rfl)
      try simp only [Act.put, List.setIfInBounds_toArray, List.set_cons_zero, List.set_cons_succ, List.getElem_toArray, List.getElem_cons_succ, List.getElem_cons_zero]
      refine wpAnyH_done (by kernel_rfl) ?_ _
      go_wp2
      go_ret
      exact ⟨rfl, hbw⟩
  · have hbig : (4096 : Int) < (len0 : Int) := by omega
    go_enter Try.func7, Try.ntmps7
    go_wp2
    go_ret
    exact ⟨rfl, Below.refl _ _⟩

/-! ### THE ROW's STEP: WRITTEN OUT: LEAVE IT -/
set_option maxRecDepth 100000 in
theorem lifted (os : Os) (started : os.Started) (H : Type) (enc : TypeId × Value → H) :
    ReturnsInHanded {} Try.checked os 7 .any (Rows.fnQueuedSpec.pre6 enc Try.prog Try.f7 Rows.fnQueuedRow.domain false) (Rows.fnQueuedSpec.post enc Try.prog Try.f7 false true false false) := by
  refine returnsInHanded_of_change (C := Try.checked) own started (by kernel_rfl) Try.func7
    (ChangeSpec.witness6 (enc := enc) (C := Try.checked) false ⟨#[], #[.slice none 0 0], []⟩ 8 (by kernel_rfl) (by kernel_rfl) (by kernel_rfl) (by kernel_rfl)) ?_
  intro W base args ds gs before hval0 hW hcnd _
  have hval : ∀ (j : Nat) t v, Try.f7.params[j]? = some t → args[j]? = some v → Value.okWide Try.prog W .any base t v := hval0
  have hW' := hW
  obtain ⟨p, q, hA0, hV, rfl, hfz, hnd⟩ := hW
  have hA : DataW.TrodAll enc Try.prog W 0 (fun _ => true) true Try.f7.params.toList args.toList ds p := hA0
  rw [Try.params7] at hA hval
  obtain ⟨v0, vs0, d0, ds0, p0, q0, hargs, rfl, rfl, h0, r0⟩ := trodAll_cons hA
  obtain ⟨rfl, rfl, rfl⟩ := trodAll_nil r0
  obtain rfl : args = #[v0] := by cases args; simp_all
  obtain ⟨rfl, rfl⟩ := trodVars_none hV
  obtain ⟨a0, len0, cap0, rfl⟩ := okWide_slice Try.underlying22 (hval 0 22 v0 rfl rfl)
  have k0 := h0
  have lt0 : ∀ x ∈ p0, x.block < W.heap.size := by obtain ⟨m, hm⟩ := k0; exact DataW.trod_lt m _ _ _ hm
  obtain ⟨z0, w0⟩ : ∃ zs, IsRow .u8 W a0 len0 cap0 zs := by
    obtain ⟨fuel, hf⟩ := h0
    rcases open_ints Try.underlying22 Try.underlying5 (by kernel_rfl) hf with ⟨hcs, _⟩ | ⟨x, l, c, zs, hcs, _, hl, hm, hz, _, hcell, hwz⟩
    · simp [Value.cells] at hcs
      obtain ⟨rfl, rfl, rfl⟩ := hcs
      exact ⟨[], .inl ⟨rfl, rfl, rfl, rfl⟩⟩
    · simp [Value.cells] at hcs
      obtain ⟨rfl, rfl, rfl⟩ := hcs
      exact ⟨zs, .inr ⟨_, rfl, hl, hm, by simpa using hz, hcell, hwz⟩⟩
  clear hA0 hval0
  refine (walk a0 len0 cap0 z0 W w0).mono fun e W' ⟨he, bel⟩ => ?_
  subst he
  exact ⟨_, rfl, _, _, _, [], _, [], hW', trodAll_mk1 (shut_bool Try.underlying4 _), (trodAll_cons_mk (Below.trod laidOut (by kernel_rfl) (of_decide_eq_true (by kernel_rfl)) k0 bel lt0) trodAll_mk0), rfl, bel.frame _, fun h => by cases h⟩

theorem over : Rows.fnQueuedRow.holds Try.pinned (OpenSpec.ofChange Rows.fnQueuedSpec) :=
  OpenClaim.holds_of_wide 7 Try.f7 rfl rfl rfl rfl rfl rfl rfl ⟨rfl, rfl, rfl, rfl, rfl⟩ rfl rfl rfl rfl rfl (by kernel_rfl) Try.func7 (by kernel_rfl)
    (of_decide_eq_true (by kernel_rfl)) (by unfold Func.isWrapper; first | (rw [if_pos (by decide +kernel)]; kernel_rfl) | (rw [if_neg (by decide +kernel)]; exact ⟨rfl, rfl⟩))
    (fun os started H enc _ => lifted os started H enc)

/-- ████ THE STATEMENT ████ -/
theorem proved : Rows.FnQueuedSaid := over
#print axioms proved
end Go.Proofs.Ytdgefdjgpneanad.fnQueued
namespace Go.Proofs.Ytdgefdjgpneanad
theorem fnQueued_holds : Rows.FnQueuedSaid := fnQueued.proved
#print axioms fnQueued_holds
end Go.Proofs.Ytdgefdjgpneanad
