/- Proved: whatever the bytes, the law FnServed returns true (at the Turns and the count that the model draws of them impl.ServeAll and impl.Waiting answer as spec's do; served one by one, each time the first size of a flow comes out and the Turns stay right, until nothing waits; and what ServeAll told and what then waits make what waited), and the bytes read as before; no condition. -/
import Derived.Test.YtdgefdjgpneanadRows
import Derived.WalkKit
import Derived.ProofKit
import Derived.OpenShut
import Derived.ShutString
import Derived.ChangeOld
import Derived.Below
import Derived.Test.YtdgefdjgpneanadAllBoth
import Derived.Test.YtdgefdjgpneanadServeBoth
import Derived.Test.YtdgefdjgpneanadTurnMath2
import Derived.Test.YtdgefdjgpneanadWaits
import Derived.Test.YtdgefdjgpneanadLikeT
import Derived.Test.YtdgefdjgpneanadLikeI
import Derived.Test.YtdgefdjgpneanadDraw8f
import Derived.Deep.RegionHeld3
import Derived.Deep.DeepCutAuto
namespace Go.Proofs.Ytdgefdjgpneanad.fnServed
open Go.ChangeShapes Go.WideShapes Go.ChangeAt Go.RowKit
open Go.ChangeMaps (open_string shut_string)
set_option linter.unusedVariables false

theorem own : ownKnob Try.prog.godebug = none := by kernel_rfl
theorem laidOut : laidOutB Try.prog = true := by kernel_rfl

/-- WHAT THE WALK IS TOLD OF A SLICE OF INTEGERS THAT CAME IN: it is nil; or it leads to a row of 'cap' cells, the numbers 'zs' (the first 'len' are its elements, the rest its spare room), each fitting its kind. -/
def IsRow (k : IntKind) (w : World) (a : Option Addr) (len cap : Nat) (zs : List Int) : Prop :=
  (a = none ∧ len = 0 ∧ cap = 0 ∧ zs = []) ∨
  ∃ x, a = some x ∧ len ≤ cap ∧ cap ≤ maxLen ∧ zs.length = cap ∧ (∀ i, i < zs.length → w.cell? (x.add i) = some (.int k (zs.getD i 0))) ∧ ∀ n ∈ zs, (Lit.int k n).wf = true

set_option linter.unusedSimpArgs false
set_option maxRecDepth 100000
theorem row_of {w : World} {a : Option Addr} {len cap : Nat} {zs : List Int} (h : IsRow .u8 w a len cap zs) : Row w.heap.size a len w := by
  intro i hi
  rcases h with ⟨rfl, rfl, rfl, rfl⟩ | ⟨x, rfl, hl, hm, hz, hcell, hwz⟩
  · omega
  · obtain ⟨b, off, spot⟩ := x
    have hspot : spot = none := by simpa [Addr.add] using World.cell?_spot (hcell 0 (by omega))
    subst hspot
    have hc := hcell i (by omega)
    have hc' : w.cell? ⟨b, off + i, none⟩ = some (.int .u8 (zs.getD i 0)) := by
      by_cases h0 : i = 0
      · subst h0; simpa [Addr.add] using hc
      · simpa [Addr.add, h0] using hc
    have hlt : i < zs.length := by omega
    have hm : zs.getD i 0 ∈ zs := by simp [List.getD, List.getElem?_eq_getElem hlt]
    obtain ⟨z0, z1⟩ := bounds_u8 (hwz _ hm)
    exact ⟨b, off, zs.getD i 0, rfl, World.block_lt_of_cell? w _ hc', hc', z0, z1⟩
theorem iv_is {w : World} {lo n c : Nat} {a : Option Addr} {xs : List Int} (h : IV w lo (.slice a n c) xs) : n = xs.length ∧ ISmp w.heap.size w a xs := by
  obtain ⟨a', c', e, k⟩ := h.smp
  injection e with e1 e2 e3
  subst e1
  exact ⟨e2, k⟩
theorem same_t {xs : List Int} : decide (xs = xs) = true := decide_eq_true rfl
theorem all_few (fs : List F8) (at' : Int) (fresh : Bool) (n : Int) : Few (allOf fs at' fresh n).1 ∧ (allOf fs at' fresh n).2.2.2.length ≤ 30 := by
  unfold allOf
  split
  · rename_i h
    unfold allB at h
    rw [Bool.and_eq_true] at h
    exact all_ok _ _ _ _ _ (turns_ok h.1) List.length_replicate
  · exact ⟨few_nil, by simp⟩
theorem iv_slice {w : World} {lo : Nat} {v : Value} {xs : List Int} (h : IV w lo v xs) : ∃ a c, v = .slice a xs.length c := by
  obtain ⟨a, c, e, _⟩ := h.smp
  exact ⟨a, c, e⟩
/-- What the law's rounds keep of y: its cells, its flows. -/
structure YSt (b9 : Nat) (wr : World) (ad : Option Addr) (c : Nat) (fs : List F8) (a : Int) (f : Bool) : Prop where
  c0 : wr.cell? ⟨b9, 0, none⟩ = some (.slice ad fs.length c)
  c1 : wr.cell? ⟨b9, 1, none⟩ = some (.int .i64 a)
  c2 : wr.cell? ⟨b9, 2, none⟩ = some (.bool f)
  fz : ∀ o : Nat, wr.frozen? ⟨b9, o, none⟩ = false
  sz : b9 < wr.heap.size
  tv : ∃ lo hi, (hi ≤ b9 ∨ b9 < lo) ∧ TV wr lo hi (.slice ad fs.length c) fs
  ok : TurnsOk fs a f
theorem YSt.next {b9 : Nat} {wr w2 : World} {ad : Option Addr} {c : Nat} {fs : List F8} {a : Int} {f : Bool} (h : YSt b9 wr ad c fs a f) (hb : Below wr.heap.size wr w2) : YSt b9 w2 ad c fs a f := by
  obtain ⟨lo, hi, hd, tv⟩ := h.tv
  exact ⟨(hb.cell (p := ⟨b9, 0, none⟩) h.sz).trans h.c0, (hb.cell (p := ⟨b9, 1, none⟩) h.sz).trans h.c1, (hb.cell (p := ⟨b9, 2, none⟩) h.sz).trans h.c2, fun o => (hb.frozen (p := ⟨b9, o, none⟩) h.sz).trans (h.fz o), Nat.lt_of_lt_of_le h.sz hb.size, ⟨lo, hi, hd, tv.next hb⟩, h.ok⟩
theorem YSt.fls {b9 : Nat} {wr : World} {ad : Option Addr} {c : Nat} {fs : List F8} {a : Int} {f : Bool} (h : YSt b9 wr ad c fs a f) : Fls wr.heap.size wr ad fs := by
  obtain ⟨lo, hi, hd, tv⟩ := h.tv
  exact (TV.fls tv).2
theorem YSt.few {b9 : Nat} {wr : World} {ad : Option Addr} {c : Nat} {fs : List F8} {a : Int} {f : Bool} (h : YSt b9 wr ad c fs a f) : Few fs := few_ok h.ok
/-- Another one is stored over it. -/
theorem YSt.put {b9 : Nat} {wr : World} {ad az : Option Addr} {c cz lo hi : Nat} {fs zs : List F8} {a za : Int} {f zf : Bool} (h : YSt b9 wr ad c fs a f) (hl : b9 < lo) (tz : TV wr lo hi (.slice az zs.length cz) zs) (ok : TurnsOk zs za zf) :
    YSt b9 (((wr.setCell ⟨b9, 0, none⟩ (.slice az zs.length cz)).setCell ⟨b9, 1, none⟩ (.int .i64 za)).setCell ⟨b9, 2, none⟩ (.bool zf)) az cz zs za zf := by
  have hI : OnlyI b9 (b9 + 1) wr (((wr.setCell ⟨b9, 0, none⟩ (.slice az zs.length cz)).setCell ⟨b9, 1, none⟩ (.int .i64 za)).setCell ⟨b9, 2, none⟩ (.bool zf)) :=
    (((OnlyI.refl _ _ _).setCell (by omega) (by omega) _).setCell (by omega) (by omega) _).setCell (by omega) (by omega) _
  have hp := put3_res (.slice az zs.length cz) (.int .i64 za) (.bool zf) h.c0 h.c1 h.c2
  exact ⟨hp 0 _ rfl, hp 1 _ rfl, hp 2 _ rfl, fun o => by simpa using h.fz o, by simpa using h.sz, ⟨lo, hi, .inr hl, tz.onlyI hI (.inr (by omega))⟩, ok⟩
theorem y_below {b9 : Nat} {w wr : World} {x y z : Value} (h : Below b9 w wr) : Below b9 w (((wr.setCell ⟨b9, 0, none⟩ x).setCell ⟨b9, 1, none⟩ y).setCell ⟨b9, 2, none⟩ z) :=
  ((h.setCell (by exact Nat.le_refl _) _).setCell (by exact Nat.le_refl _) _).setCell (by exact Nat.le_refl _) _

/-! ### STEP 1: THE WALK: the Go text returns true, AND WRITES NOTHING THAT WAS THERE: 'Below w.heap.size w w'' (Derived/Below.lean: '.refl', '.alloc', '.drew', '.setCell' at a new block, '.trans'). Open each 'IsRow' by 'rcases' AHEAD of 'go_enter'; part every test ahead of the walk. -/
set_option maxHeartbeats 32000000 in
theorem walk (a0 : Option Addr) (len0 cap0 : Nat) (z0 : List Int) (w : World) (w0 : IsRow .u8 w a0 len0 cap0 z0) :
    Calls Try.prog 5 #[.slice a0 len0 cap0] w fun e w' => e = .returned (.bool true) ∧ Below w.heap.size w w' := by
  have row := row_of w0
  by_cases hs : len0 ≤ 4096
  · go_enter Try.func5, Try.ntmps5
    go_upto_region 4 with (first
      | (go_at_call 23; refine (drawServeAll_any cap0 hs row (Nat.le_refl _)).mono ?_; rintro e vD ⟨ad, c, fs, at', fresh, n, rfl, t8⟩; have T8 : Hid (T8In w vD ad c fs) := t8; have hbw := t8.2.2.2; clear t8)
      | go_in)
    have C : Hid (Cells vD []) := trivial
    have F3 := T8.out.fls
    have tv3 : TV vD w.heap.size vD.heap.size (.slice ad fs.length c) fs := by
      rcases T8.out.1 with e | ⟨g, vs, e, hc, fo⟩
      · exact .inr ⟨e, ad, c, by rw [e]; rfl⟩
      · exact .inl ⟨g, c, vs, by rw [e], hc, fo⟩
    have hl4 := T8.out.2.1
    have hle := T8.out.2.2.1
    have hm3 : fs.length ≤ 4611686018427387904 := by omega
    have hf3 : ∀ f ∈ fs, f.2.2.length ≤ 4611686018427387904 := fun f hf => by have := hle f hf; omega
    obtain ⟨v3, hv⟩ : ∃ v, v = vD.alloc (.cells #[.slice ad fs.length c, .int .i64 at', .bool fresh] 48) := ⟨_, rfl⟩
    rw [← hv]
    have hbA : Below vD.heap.size vD v3 := by rw [hv]; exact new_below _ _
    have cA0 : v3.cell? ⟨vD.heap.size, 0, none⟩ = some (.slice ad fs.length c) := by rw [hv]; go_simp
    have cA1 : v3.cell? ⟨vD.heap.size, 1, none⟩ = some (.int .i64 at') := by rw [hv]; go_simp
    have cA2 : v3.cell? ⟨vD.heap.size, 2, none⟩ = some (.bool fresh) := by rw [hv]; go_simp
    have fA : ∀ o : Nat, v3.frozen? ⟨vD.heap.size, o, none⟩ = false := fun o => by rw [hv]; go_simp
    have zA : vD.heap.size < v3.heap.size := by rw [hv]; simp
    clear hv
    obtain ⟨b3, hb3⟩ : ∃ b, b = vD.heap.size := ⟨_, rfl⟩
    rw [← hb3] at cA0 cA1 cA2 fA ⊢
    have yb3 : b3 < v3.heap.size := by omega
    have Hb3 : Hid (b3 = vD.heap.size) := hb3
    clear hb3
    have hbw := below_step hbw hbA
    have C : Hid (Cells v3 [(b3, 0, .slice ad fs.length c), (b3, 1, .int .i64 at'), (b3, 2, .bool fresh)]) := by
      obtain ⟨_⟩ := C.out.next hbA
      exact ⟨⟨yb3, cA0⟩, ⟨yb3, cA1⟩, ⟨yb3, cA2⟩, trivial⟩
    have ⟨⟨kz0, k0⟩, ⟨kz1, k1⟩, ⟨kz2, k2⟩, _⟩ := C.out
    have F3 := F3.here hbA
    have tv3 := tv3.next hbA
    have zw := hbw.size
    clear cA0 cA1 cA2 fA zA hbA
    obtain ⟨Y, ya, yf, S, hR⟩ : ∃ Y ya yf S, allOf fs at' fresh n = (Y, ya, yf, S) := ⟨_, _, _, _, rfl⟩
    have hfew := all_few fs at' fresh n
    rw [hR] at hfew
    have HFY : Hid (Few Y) := hfew.1
    have hS30 : S.length ≤ 30 := hfew.2
    clear hfew
    have HR : Hid (allOf fs at' fresh n = (Y, ya, yf, S)) := hR
    have HI : Hid (∀ (w : World) (a : Option Addr) (c : Nat), Fls w.heap.size w a fs → Calls Try.prog 24 #[turnV a fs.length c at' fresh, .int .i64 n] w (AllQ2 w Y ya yf S)) := fun w a c h => by
      have h' := iAll_any c at' fresh n h hm3 hf3
      rw [HR.out] at h'
      exact h'
    have HS : Hid (∀ (w : World) (a : Option Addr) (c : Nat), Fls w.heap.size w a fs → Calls Try.prog 25 #[turnV a fs.length c at' fresh, .int .i64 n] w (AllQ w Y ya yf S)) := fun w a c h => by
      have h' := specAll_any c at' fresh n h hm3 hf3
      rw [HR.out] at h'
      exact h'
    clear hR
    go_upto_region 5 with (first
      | (go_at_call 24; refine (HI.out _ _ _ (F3.here (by go_grown))).mono ?_; rintro e vI ⟨a5, c5, s6, m5, rfl, tv5, iv6, hbP, _, _⟩; obtain ⟨a6, c6, rfl⟩ := iv_slice iv6; have F5 := (TV.fls tv5).2; clear tv5; have hbw := below_step (w := w) (by go_grown) hbP; have C : Hid (Cells vI [(b3, 0, .slice ad fs.length c), (b3, 1, .int .i64 at'), (b3, 2, .bool fresh)]) := C.out.next (below_step (by go_grown) hbP); have ⟨⟨kz0, k0⟩, ⟨kz1, k1⟩, ⟨kz2, k2⟩, _⟩ := C.out; have F3 := F3.here (below_step (by go_grown) hbP); have tv3 := tv3.next (below_step (by go_grown) hbP); have zw := hbw.size))
    obtain ⟨v5, hv⟩ : ∃ v, v = vI.alloc (.cells #[.slice a5 Y.length c5, .int .i64 ya, .bool yf] 48) := ⟨_, rfl⟩
    rw [← hv]
    have hbA : Below vI.heap.size vI v5 := by rw [hv]; exact new_below _ _
    have cA0 : v5.cell? ⟨vI.heap.size, 0, none⟩ = some (.slice a5 Y.length c5) := by rw [hv]; go_simp
    have cA1 : v5.cell? ⟨vI.heap.size, 1, none⟩ = some (.int .i64 ya) := by rw [hv]; go_simp
    have cA2 : v5.cell? ⟨vI.heap.size, 2, none⟩ = some (.bool yf) := by rw [hv]; go_simp
    have fA : ∀ o : Nat, v5.frozen? ⟨vI.heap.size, o, none⟩ = false := fun o => by rw [hv]; go_simp
    have zA : vI.heap.size < v5.heap.size := by rw [hv]; simp
    clear hv
    obtain ⟨b5, hb5⟩ : ∃ b, b = vI.heap.size := ⟨_, rfl⟩
    rw [← hb5] at cA0 cA1 cA2 fA ⊢
    have yb5 : b5 < v5.heap.size := by omega
    have Hb5 : Hid (b5 = vI.heap.size) := hb5
    clear hb5
    have hbw := below_step hbw hbA
    have C : Hid (Cells v5 [(b3, 0, .slice ad fs.length c), (b3, 1, .int .i64 at'), (b3, 2, .bool fresh), (b5, 0, .slice a5 Y.length c5), (b5, 1, .int .i64 ya), (b5, 2, .bool yf)]) := by
      obtain ⟨c0, c1, c2, _⟩ := C.out.next hbA
      exact ⟨c0, c1, c2, ⟨yb5, cA0⟩, ⟨yb5, cA1⟩, ⟨yb5, cA2⟩, trivial⟩
    have ⟨⟨kz0, k0⟩, ⟨kz1, k1⟩, ⟨kz2, k2⟩, ⟨kz3, k3⟩, ⟨kz4, k4⟩, ⟨kz5, k5⟩, _⟩ := C.out
    have F3 := F3.here hbA
    have F5 := F5.here hbA
    have tv3 := tv3.next hbA
    have iv6 := iv6.next hbA
    have zw := hbw.size
    clear cA0 cA1 cA2 fA zA hbA
    go_upto_region 6 with (first
      | (go_at_call 25; refine (HS.out _ _ _ (F3.here (by go_grown))).mono ?_; rintro e vS ⟨a7, c7, s8, rfl, tv7, iv8, hbP⟩; obtain ⟨a8, c8, rfl⟩ := iv_slice iv8; have F7 := (TV.fls tv7).2; clear tv7; have hbw := below_step (w := w) (by go_grown) hbP; have C : Hid (Cells vS [(b3, 0, .slice ad fs.length c), (b3, 1, .int .i64 at'), (b3, 2, .bool fresh), (b5, 0, .slice a5 Y.length c5), (b5, 1, .int .i64 ya), (b5, 2, .bool yf)]) := C.out.next (below_step (by go_grown) hbP); have ⟨⟨kz0, k0⟩, ⟨kz1, k1⟩, ⟨kz2, k2⟩, ⟨kz3, k3⟩, ⟨kz4, k4⟩, ⟨kz5, k5⟩, _⟩ := C.out; have F3 := F3.here (below_step (by go_grown) hbP); have F5 := F5.here (below_step (by go_grown) hbP); have tv3 := tv3.next (below_step (by go_grown) hbP); have iv6 := iv6.next (below_step (by go_grown) hbP); have zw := hbw.size))
    obtain ⟨v7, hv⟩ : ∃ v, v = vS.alloc (.cells #[.slice a7 Y.length c7, .int .i64 ya, .bool yf] 48) := ⟨_, rfl⟩
    rw [← hv]
    have hbA : Below vS.heap.size vS v7 := by rw [hv]; exact new_below _ _
    have cA0 : v7.cell? ⟨vS.heap.size, 0, none⟩ = some (.slice a7 Y.length c7) := by rw [hv]; go_simp
    have cA1 : v7.cell? ⟨vS.heap.size, 1, none⟩ = some (.int .i64 ya) := by rw [hv]; go_simp
    have cA2 : v7.cell? ⟨vS.heap.size, 2, none⟩ = some (.bool yf) := by rw [hv]; go_simp
    have fA : ∀ o : Nat, v7.frozen? ⟨vS.heap.size, o, none⟩ = false := fun o => by rw [hv]; go_simp
    have zA : vS.heap.size < v7.heap.size := by rw [hv]; simp
    clear hv
    obtain ⟨b7, hb7⟩ : ∃ b, b = vS.heap.size := ⟨_, rfl⟩
    rw [← hb7] at cA0 cA1 cA2 fA ⊢
    have yb7 : b7 < v7.heap.size := by omega
    have Hb7 : Hid (b7 = vS.heap.size) := hb7
    clear hb7
    have hbw := below_step hbw hbA
    have C : Hid (Cells v7 [(b3, 0, .slice ad fs.length c), (b3, 1, .int .i64 at'), (b3, 2, .bool fresh), (b5, 0, .slice a5 Y.length c5), (b5, 1, .int .i64 ya), (b5, 2, .bool yf), (b7, 0, .slice a7 Y.length c7), (b7, 1, .int .i64 ya), (b7, 2, .bool yf)]) := by
      obtain ⟨c0, c1, c2, c3, c4, c5, _⟩ := C.out.next hbA
      exact ⟨c0, c1, c2, c3, c4, c5, ⟨yb7, cA0⟩, ⟨yb7, cA1⟩, ⟨yb7, cA2⟩, trivial⟩
    have ⟨⟨kz0, k0⟩, ⟨kz1, k1⟩, ⟨kz2, k2⟩, ⟨kz3, k3⟩, ⟨kz4, k4⟩, ⟨kz5, k5⟩, ⟨kz6, k6⟩, ⟨kz7, k7⟩, ⟨kz8, k8⟩, _⟩ := C.out
    have F3 := F3.here hbA
    have F5 := F5.here hbA
    have F7 := F7.here hbA
    have tv3 := tv3.next hbA
    have iv6 := iv6.next hbA
    have iv8 := iv8.next hbA
    have zw := hbw.size
    clear cA0 cA1 cA2 fA zA hbA
    go_region_held3 (fun w' => w'.cell? ⟨b3, 0, none⟩ = some (.slice ad fs.length c) ∧ w'.cell? ⟨b3, 1, none⟩ = some (.int .i64 at') ∧ w'.cell? ⟨b3, 2, none⟩ = some (.bool fresh) ∧ w'.cell? ⟨b5, 0, none⟩ = some (.slice a5 Y.length c5) ∧ w'.cell? ⟨b5, 1, none⟩ = some (.int .i64 ya) ∧ w'.cell? ⟨b5, 2, none⟩ = some (.bool yf) ∧ w'.cell? ⟨b7, 0, none⟩ = some (.slice a7 Y.length c7) ∧ w'.cell? ⟨b7, 1, none⟩ = some (.int .i64 ya) ∧ w'.cell? ⟨b7, 2, none⟩ = some (.bool yf)) (go_keep)
      (first
        | (go_at_call 26; refine (likeT_same _ _ ya yf (F5.here (by go_grown)) (F7.here (by go_grown)) HFY.out.len HFY.out.each).mono ?_; rintro e vL ⟨rfl, hbE⟩; have hbw := below_step (w := w) (by go_grown) hbE; have C : Hid (Cells vL [(b3, 0, .slice ad fs.length c), (b3, 1, .int .i64 at'), (b3, 2, .bool fresh), (b5, 0, .slice a5 Y.length c5), (b5, 1, .int .i64 ya), (b5, 2, .bool yf), (b7, 0, .slice a7 Y.length c7), (b7, 1, .int .i64 ya), (b7, 2, .bool yf)]) := C.out.next (below_step (by go_grown) hbE); have ⟨⟨kz0, k0⟩, ⟨kz1, k1⟩, ⟨kz2, k2⟩, ⟨kz3, k3⟩, ⟨kz4, k4⟩, ⟨kz5, k5⟩, ⟨kz6, k6⟩, ⟨kz7, k7⟩, ⟨kz8, k8⟩, _⟩ := C.out; have F3 := F3.here (below_step (by go_grown) hbE); have F5 := F5.here (below_step (by go_grown) hbE); have F7 := F7.here (below_step (by go_grown) hbE); have tv3 := tv3.next (below_step (by go_grown) hbE); have iv6 := iv6.next (below_step (by go_grown) hbE); have iv8 := iv8.next (below_step (by go_grown) hbE); have zw := hbw.size)
        | (go_at_call 27; refine (likeI_any (iv6.next (by go_grown)) (iv8.next (by go_grown)) (by omega)).mono ?_; rintro e vM ⟨rfl, hbE⟩; rw [same_t]; have hbw := below_step (w := w) (by go_grown) hbE; have C : Hid (Cells vM [(b3, 0, .slice ad fs.length c), (b3, 1, .int .i64 at'), (b3, 2, .bool fresh), (b5, 0, .slice a5 Y.length c5), (b5, 1, .int .i64 ya), (b5, 2, .bool yf), (b7, 0, .slice a7 Y.length c7), (b7, 1, .int .i64 ya), (b7, 2, .bool yf)]) := C.out.next (below_step (by go_grown) hbE); have ⟨⟨kz0, k0⟩, ⟨kz1, k1⟩, ⟨kz2, k2⟩, ⟨kz3, k3⟩, ⟨kz4, k4⟩, ⟨kz5, k5⟩, ⟨kz6, k6⟩, ⟨kz7, k7⟩, ⟨kz8, k8⟩, _⟩ := C.out; have F3 := F3.here (below_step (by go_grown) hbE); have F5 := F5.here (below_step (by go_grown) hbE); have F7 := F7.here (below_step (by go_grown) hbE); have tv3 := tv3.next (below_step (by go_grown) hbE); have iv6 := iv6.next (below_step (by go_grown) hbE); have iv8 := iv8.next (below_step (by go_grown) hbE); have zw := hbw.size)
        | (go_at_call 28; refine (iWaiting_any _ at' fresh (F3.here (by go_grown)) hm3 hf3).mono ?_; rintro e vN ⟨rfl, hbE⟩; have hbw := below_step (w := w) (by go_grown) hbE; have C : Hid (Cells vN [(b3, 0, .slice ad fs.length c), (b3, 1, .int .i64 at'), (b3, 2, .bool fresh), (b5, 0, .slice a5 Y.length c5), (b5, 1, .int .i64 ya), (b5, 2, .bool yf), (b7, 0, .slice a7 Y.length c7), (b7, 1, .int .i64 ya), (b7, 2, .bool yf)]) := C.out.next (below_step (by go_grown) hbE); have ⟨⟨kz0, k0⟩, ⟨kz1, k1⟩, ⟨kz2, k2⟩, ⟨kz3, k3⟩, ⟨kz4, k4⟩, ⟨kz5, k5⟩, ⟨kz6, k6⟩, ⟨kz7, k7⟩, ⟨kz8, k8⟩, _⟩ := C.out; have F3 := F3.here (below_step (by go_grown) hbE); have F5 := F5.here (below_step (by go_grown) hbE); have F7 := F7.here (below_step (by go_grown) hbE); have tv3 := tv3.next (below_step (by go_grown) hbE); have iv6 := iv6.next (below_step (by go_grown) hbE); have iv8 := iv8.next (below_step (by go_grown) hbE); have zw := hbw.size)
        | (go_at_call 29; refine (specWaiting_any _ at' fresh (F3.here (by go_grown)) hm3 hf3).mono ?_; rintro e vO ⟨rfl, hbE⟩; have hbw := below_step (w := w) (by go_grown) hbE; have C : Hid (Cells vO [(b3, 0, .slice ad fs.length c), (b3, 1, .int .i64 at'), (b3, 2, .bool fresh), (b5, 0, .slice a5 Y.length c5), (b5, 1, .int .i64 ya), (b5, 2, .bool yf), (b7, 0, .slice a7 Y.length c7), (b7, 1, .int .i64 ya), (b7, 2, .bool yf)]) := C.out.next (below_step (by go_grown) hbE); have ⟨⟨kz0, k0⟩, ⟨kz1, k1⟩, ⟨kz2, k2⟩, ⟨kz3, k3⟩, ⟨kz4, k4⟩, ⟨kz5, k5⟩, ⟨kz6, k6⟩, ⟨kz7, k7⟩, ⟨kz8, k8⟩, _⟩ := C.out; have F3 := F3.here (below_step (by go_grown) hbE); have F5 := F5.here (below_step (by go_grown) hbE); have F7 := F7.here (below_step (by go_grown) hbE); have tv3 := tv3.next (below_step (by go_grown) hbE); have iv6 := iv6.next (below_step (by go_grown) hbE); have iv8 := iv8.next (below_step (by go_grown) hbE); have zw := hbw.size))
    cases ht : turnsB fs at' fresh
    · have e0 : S = [] := by
        have h := HR.out
        unfold allOf allB at h
        rw [ht, Bool.false_and, if_neg (by decide)] at h
        injection h with _ h
        injection h with _ h
        injection h with _ h
        exact h.symm
      subst e0
      rw [List.length_nil]
      go_wp2_with (first
        | (go_at_call 30; refine (specTurnsOk_any _ at' fresh (F3.here (by go_grown)) hm3 hf3).mono ?_; rintro e vP ⟨rfl, hbE⟩; rw [ht]; have hbw := below_step (w := w) (by go_grown) hbE; have C : Hid (Cells vP [(b3, 0, .slice ad fs.length c), (b3, 1, .int .i64 at'), (b3, 2, .bool fresh), (b5, 0, .slice a5 Y.length c5), (b5, 1, .int .i64 ya), (b5, 2, .bool yf), (b7, 0, .slice a7 Y.length c7), (b7, 1, .int .i64 ya), (b7, 2, .bool yf)]) := C.out.next (below_step (by go_grown) hbE); have ⟨⟨kz0, k0⟩, ⟨kz1, k1⟩, ⟨kz2, k2⟩, ⟨kz3, k3⟩, ⟨kz4, k4⟩, ⟨kz5, k5⟩, ⟨kz6, k6⟩, ⟨kz7, k7⟩, ⟨kz8, k8⟩, _⟩ := C.out; have F3 := F3.here (below_step (by go_grown) hbE); have F5 := F5.here (below_step (by go_grown) hbE); have F7 := F7.here (below_step (by go_grown) hbE); have tv3 := tv3.next (below_step (by go_grown) hbE); have iv6 := iv6.next (below_step (by go_grown) hbE); have iv8 := iv8.next (below_step (by go_grown) hbE); have zw := hbw.size))
      go_ret
      exact ⟨rfl, hbw⟩
    · by_cases hnn : n < 0 ∨ 3000 < n
      · have e0 : S = [] := by
          have h := HR.out
          unfold allOf allB inB at h
          rw [if_neg (by simp only [Bool.and_eq_true, decide_eq_true_eq]; omega)] at h
          injection h with _ h
          injection h with _ h
          injection h with _ h
          exact h.symm
        subst e0
        rw [List.length_nil]
        rcases hnn with hnn | hnn
        · go_wp2_with (first
            | (go_at_call 30; refine (specTurnsOk_any _ at' fresh (F3.here (by go_grown)) hm3 hf3).mono ?_; rintro e vP ⟨rfl, hbE⟩; rw [ht]; have hbw := below_step (w := w) (by go_grown) hbE; have C : Hid (Cells vP [(b3, 0, .slice ad fs.length c), (b3, 1, .int .i64 at'), (b3, 2, .bool fresh), (b5, 0, .slice a5 Y.length c5), (b5, 1, .int .i64 ya), (b5, 2, .bool yf), (b7, 0, .slice a7 Y.length c7), (b7, 1, .int .i64 ya), (b7, 2, .bool yf)]) := C.out.next (below_step (by go_grown) hbE); have ⟨⟨kz0, k0⟩, ⟨kz1, k1⟩, ⟨kz2, k2⟩, ⟨kz3, k3⟩, ⟨kz4, k4⟩, ⟨kz5, k5⟩, ⟨kz6, k6⟩, ⟨kz7, k7⟩, ⟨kz8, k8⟩, _⟩ := C.out; have F3 := F3.here (below_step (by go_grown) hbE); have F5 := F5.here (below_step (by go_grown) hbE); have F7 := F7.here (below_step (by go_grown) hbE); have tv3 := tv3.next (below_step (by go_grown) hbE); have iv6 := iv6.next (below_step (by go_grown) hbE); have iv8 := iv8.next (below_step (by go_grown) hbE); have zw := hbw.size))
          go_ret
          exact ⟨rfl, hbw⟩
        · have hn0 : ¬ n < 0 := by omega
          go_wp2_with (first
            | (go_at_call 30; refine (specTurnsOk_any _ at' fresh (F3.here (by go_grown)) hm3 hf3).mono ?_; rintro e vP ⟨rfl, hbE⟩; rw [ht]; have hbw := below_step (w := w) (by go_grown) hbE; have C : Hid (Cells vP [(b3, 0, .slice ad fs.length c), (b3, 1, .int .i64 at'), (b3, 2, .bool fresh), (b5, 0, .slice a5 Y.length c5), (b5, 1, .int .i64 ya), (b5, 2, .bool yf), (b7, 0, .slice a7 Y.length c7), (b7, 1, .int .i64 ya), (b7, 2, .bool yf)]) := C.out.next (below_step (by go_grown) hbE); have ⟨⟨kz0, k0⟩, ⟨kz1, k1⟩, ⟨kz2, k2⟩, ⟨kz3, k3⟩, ⟨kz4, k4⟩, ⟨kz5, k5⟩, ⟨kz6, k6⟩, ⟨kz7, k7⟩, ⟨kz8, k8⟩, _⟩ := C.out; have F3 := F3.here (below_step (by go_grown) hbE); have F5 := F5.here (below_step (by go_grown) hbE); have F7 := F7.here (below_step (by go_grown) hbE); have tv3 := tv3.next (below_step (by go_grown) hbE); have iv6 := iv6.next (below_step (by go_grown) hbE); have iv8 := iv8.next (below_step (by go_grown) hbE); have zw := hbw.size))
          go_ret
          exact ⟨rfl, hbw⟩
      · have hn0 : ¬ n < 0 := fun h => hnn (.inl h)
        have hn1 : ¬ 3000 < n := fun h => hnn (.inr h)
        have OK3 : Hid (TurnsOk fs at' fresh) := turns_ok ht
        have AS : Hid (AllSum fs (Y, ya, yf, S) (waitTo fs fs.length)) := by
          have h := alls_sum n OK3.out ⟨by omega, by omega⟩
          rw [HR.out] at h
          exact h
        clear hnn
        go_upto_region 10 with (first
          | (go_at_call 30; refine (specTurnsOk_any _ at' fresh (F3.here (by go_grown)) hm3 hf3).mono ?_; rintro e vP ⟨rfl, hbE⟩; rw [ht]; have hbw := below_step (w := w) (by go_grown) hbE; have C : Hid (Cells vP [(b3, 0, .slice ad fs.length c), (b3, 1, .int .i64 at'), (b3, 2, .bool fresh), (b5, 0, .slice a5 Y.length c5), (b5, 1, .int .i64 ya), (b5, 2, .bool yf), (b7, 0, .slice a7 Y.length c7), (b7, 1, .int .i64 ya), (b7, 2, .bool yf)]) := C.out.next (below_step (by go_grown) hbE); have ⟨⟨kz0, k0⟩, ⟨kz1, k1⟩, ⟨kz2, k2⟩, ⟨kz3, k3⟩, ⟨kz4, k4⟩, ⟨kz5, k5⟩, ⟨kz6, k6⟩, ⟨kz7, k7⟩, ⟨kz8, k8⟩, _⟩ := C.out; have F3 := F3.here (below_step (by go_grown) hbE); have F5 := F5.here (below_step (by go_grown) hbE); have F7 := F7.here (below_step (by go_grown) hbE); have tv3 := tv3.next (below_step (by go_grown) hbE); have iv6 := iv6.next (below_step (by go_grown) hbE); have iv8 := iv8.next (below_step (by go_grown) hbE); have zw := hbw.size))
        have HX : Hid (∀ wr, Below vP.heap.size vP wr → Cells wr [(b3, 0, .slice ad fs.length c), (b3, 1, .int .i64 at'), (b3, 2, .bool fresh), (b5, 0, .slice a5 Y.length c5), (b5, 1, .int .i64 ya), (b5, 2, .bool yf), (b7, 0, .slice a7 Y.length c7), (b7, 1, .int .i64 ya), (b7, 2, .bool yf)] ∧ Fls wr.heap.size wr ad fs ∧ Fls wr.heap.size wr a5 Y ∧ ISmp wr.heap.size wr a6 S ∧ Below w.heap.size w wr) := fun wr h => ⟨C.out.next h, F3.here h, F5.here h, (iv_is (iv6.next h)).2, below_step hbw h⟩
        have hv3z : vD.heap.size ≤ vP.heap.size := by
          rcases tv3 with ⟨g, cp, vs, e, hc, f⟩ | ⟨e, _⟩
          · exact f.top
          · have := OK3.out.l0
            rw [e] at this
            simp at this
        clear F7 iv8
        go_upto_region 11 with (fail)
        obtain ⟨v9, hv⟩ : ∃ v, v = vP.alloc (.cells #[.slice ad fs.length c, .int .i64 at', .bool fresh] 48) := ⟨_, rfl⟩
        rw [← hv]
        have hbA : Below vP.heap.size vP v9 := by rw [hv]; exact new_below _ _
        have HY0 : Hid (YSt vP.heap.size v9 ad c fs at' fresh) := by
          have c0 : v9.cell? ⟨vP.heap.size, 0, none⟩ = some (.slice ad fs.length c) := by rw [hv]; go_simp
          have c1 : v9.cell? ⟨vP.heap.size, 1, none⟩ = some (.int .i64 at') := by rw [hv]; go_simp
          have c2 : v9.cell? ⟨vP.heap.size, 2, none⟩ = some (.bool fresh) := by rw [hv]; go_simp
          have fz : ∀ o : Nat, v9.frozen? ⟨vP.heap.size, o, none⟩ = false := fun o => by rw [hv]; go_simp
          have sz : vP.heap.size < v9.heap.size := by rw [hv]; simp
          exact ⟨c0, c1, c2, fz, sz, ⟨_, _, .inl hv3z, tv3.next hbA⟩, OK3.out⟩
        clear hv
        obtain ⟨b9, hb9⟩ : ∃ b, b = vP.heap.size := ⟨_, rfl⟩
        rw [← hb9] at HX HY0 hbA ⊢
        have HBA : Hid (Below b9 vP v9) := hbA
        have HB9 : Hid (b9 = vP.heap.size) := hb9
        have HW9 : Hid (w.heap.size ≤ b9) := by show w.heap.size ≤ b9; rw [hb9]; exact hbw.size
        clear hb9 hbA tv3 iv6 F3 F5 hbw zw kz0 k0 kz1 k1 kz2 k2 kz3 k3 kz4 k4 kz5 k5 kz6 k6 kz7 k7 kz8 k8 C
        have hsl : sumL fs fs.length ≤ 404 := by
          have := sumL_most hle fs.length (Nat.le_refl _)
          omega
        go_wp2
        go_loopw [10] (fun s wr => ∃ (k : Nat) (ad' : Option Addr) (c' : Nat) (fs' : List F8) (a' : Int) (f' : Bool), s = .int .i64 k ∧ k + sumL fs' fs'.length ≤ 404 ∧ Hid (YSt b9 wr ad' c' fs' a' f') ∧ Hid (Below b9 vP wr)) (fun s _ => 3000 - (intOf s).toNat)
        case atStart => exact ⟨0, ad, c, fs, at', fresh, rfl, by omega, HY0, HBA⟩
        case round =>
          clear HY0 HBA
          obtain ⟨k, ad', c', fs', a', f', rfl, hks, YK, HBK⟩ := hrel
          have hk3 : (k : Int) < 3000 := by omega
          have HKS : Hid (k + sumL fs' fs'.length ≤ 404) := hks
          have hk4 : k ≤ 404 := by omega
          clear hks
          have y0 := YK.out.c0
          have y1 := YK.out.c1
          have y2 := YK.out.c2
          have yz := YK.out.sz
          have htk : turnsB fs' a' f' = true := turns_yes YK.out.ok
          cases hfd : findT fs' (comeOf fs'.length a' f' fs'.length) with
          | none =>
            have HSV : Hid (∀ (w : World) (a : Option Addr) (c : Nat), Fls w.heap.size w a fs' → Calls Try.prog 31 #[turnV a fs'.length c a' f'] w (TurnPost3 w fs' a' f' (-1) 0)) := fun w a c h => by
              have h' := iServe_any c a' f' h YK.out.few.len YK.out.few.each
              obtain ⟨e1, e2, e3, e4, e5⟩ := srv_none hfd
              unfold srvY srvYa srvYf srvYi srvYn at h'
              rw [if_pos htk, if_pos htk, if_pos htk, if_pos htk, if_pos htk, e1, e2, e3, e4, e5] at h'
              exact h'
            have HW0 : Hid (waitOf fs' a' f' = 0) := by
              show waitOf fs' a' f' = 0
              unfold waitOf
              rw [if_pos htk]
              exact none_wait YK.out.ok hfd
            have HWX : Hid (waitOf Y ya yf = waitTo Y Y.length) := by
              show waitOf Y ya yf = waitTo Y Y.length
              unfold waitOf
              rw [if_pos (turns_yes AS.out.ok)]
            have HWT : Hid (waitOf fs at' fresh = waitTo fs fs.length) := by
              show waitOf fs at' fresh = _
              unfold waitOf
              rw [if_pos ht]
            clear hfd htk
            go_upto_region 19 with (first
              | (go_at_call 31; refine (HSV.out _ _ _ YK.out.fls).mono ?_; rintro e vZ ⟨az, cz, rfl, tvz, hbZ⟩; clear tvz))
            obtain ⟨v11, hv⟩ : ∃ v, v = vZ.alloc (.cells #[.slice az fs'.length cz, .int .i64 a', .bool f'] 48) := ⟨_, rfl⟩
            rw [← hv]
            have hb11 : Below wr.heap.size wr v11 := below_step hbZ (by rw [hv]; exact new_below _ _)
            clear hv
            have Y11 : Hid (YSt b9 v11 ad' c' fs' a' f') := YK.out.next hb11
            have HB11 : Hid (Below b9 vP v11) := HBK.out.trans (hb11.mono (by omega))
            obtain ⟨X1, X3, X5, X6, X7⟩ := HX.out v11 HB11.out
            have C : Hid (Cells v11 [(b3, 0, .slice ad fs.length c), (b3, 1, .int .i64 at'), (b3, 2, .bool fresh), (b5, 0, .slice a5 Y.length c5), (b5, 1, .int .i64 ya), (b5, 2, .bool yf), (b7, 0, .slice a7 Y.length c7), (b7, 1, .int .i64 ya), (b7, 2, .bool yf)]) := X1
            have ⟨⟨kz0, k0⟩, ⟨kz1, k1⟩, ⟨kz2, k2⟩, ⟨kz3, k3⟩, ⟨kz4, k4⟩, ⟨kz5, k5⟩, ⟨kz6, k6⟩, ⟨kz7, k7⟩, ⟨kz8, k8⟩, _⟩ := C.out
            have FW : Hid (Few fs') := Y11.out.few
            clear X1 y0 y1 y2 yz YK HBK HSV hbZ HB11 hb11
            go_upto_region 20 with (first
              | (go_at_call 28; refine (iWaiting_any _ ya yf X5 HFY.out.len HFY.out.each).mono ?_; rintro e vW ⟨rfl, hbE⟩; rw [HWX.out]))
            have C : Hid (Cells vW [(b3, 0, .slice ad fs.length c), (b3, 1, .int .i64 at'), (b3, 2, .bool fresh), (b5, 0, .slice a5 Y.length c5), (b5, 1, .int .i64 ya), (b5, 2, .bool yf), (b7, 0, .slice a7 Y.length c7), (b7, 1, .int .i64 ya), (b7, 2, .bool yf)]) := C.out.next hbE
            have X3 := X3.here hbE
            have X6 := X6.here hbE
            have X7 := below_step X7 hbE
            have Y11 : Hid (YSt b9 vW ad' c' fs' a' f') := Y11.out.next hbE
            have ⟨⟨kz0, k0⟩, ⟨kz1, k1⟩, ⟨kz2, k2⟩, ⟨kz3, k3⟩, ⟨kz4, k4⟩, ⟨kz5, k5⟩, ⟨kz6, k6⟩, ⟨kz7, k7⟩, ⟨kz8, k8⟩, _⟩ := C.out
            have y0 := Y11.out.c0
            have y1 := Y11.out.c1
            have y2 := Y11.out.c2
            have hSS : waitTo Y Y.length + sumTo S S.length = waitTo fs fs.length := AS.out.sum
            have hSp : ∀ i (h : i < S.length), 0 ≤ S[i] := AS.out.pos
            have hWB := waitTo_in AS.out.ok.flow Y.length (Nat.le_refl _)
            have hWB' := waitTo_in OK3.out.flow fs.length (Nat.le_refl _)
            have hfl30 := OK3.out.l1
            obtain ⟨WX, hWX⟩ : ∃ x, waitTo Y Y.length = x := ⟨_, rfl⟩
            obtain ⟨WT, hWT⟩ : ∃ x, waitTo fs fs.length = x := ⟨_, rfl⟩
            have HWT2 : Hid (waitOf fs at' fresh = WT) := HWT.out.trans hWT
            simp only at hWB
            rw [hWX] at hSS hWB ⊢
            rw [hWT] at hSS hWB'
            have hW0 := hWB.1
            have hWT1 : WT ≤ 4500000 := by have := hWB'.2; omega
            have HSS : Hid (WX + sumTo S S.length = WT) := hSS
            have HSP : Hid (∀ i (h : i < S.length), 0 ≤ S[i]) := hSp
            have hSi : (S.length : Int) ≤ 30 := by omega
            clear hWX hWT hWB hWB' hSp hSS HWT HWX X5
            go_wp2
            go_loop [14, 15] (fun s i => ∃ (j : Nat) (v : Int), i = .int .i64 j ∧ j ≤ S.length ∧ s = .int .i64 v ∧ Hid (v = WX + sumTo S j)) (fun _ i => S.length - (intOf i).toNat)
            case atStart => exact ⟨0, WX, rfl, by omega, rfl, (Int.add_zero _).symm⟩
            case round =>
              obtain ⟨j, v, rfl, hj, rfl, HV⟩ := hrel
              have hb := sumTo_most HSP.out hj
              have hss := HSS.out
              have hvv := HV.out
              have hv0 : 0 ≤ v := by omega
              have hv1 : v ≤ 4500000 := by omega
              clear hb hss hvv
              by_cases hlj : j < S.length
              · have hlj' : (j : Int) < (S.length : Int) := by omega
                obtain ⟨bs, os, rfl, hbs, d0⟩ := X6 j hlj
                have hz0 := HSP.out j hlj
                have hb2 := sumTo_most HSP.out (show j + 1 ≤ S.length by omega)
                have hn2 := sumTo_next hlj
                obtain ⟨z, hzz⟩ : ∃ z, S[j] = z := ⟨_, rfl⟩
                rw [hzz] at d0 hz0 hn2
                clear hzz
                have HN2 : Hid (v + z = WX + sumTo S (j + 1)) := by
                  show v + z = WX + sumTo S (j + 1)
                  rw [hn2, HV.out]
                  omega
                have hz1 : z ≤ 4500000 := by
                  have h1 := HSS.out
                  have h2 := sumTo_most HSP.out (show j ≤ S.length by omega)
                  omega
                clear hb2 hn2
                go_wp2
                go_round
                case rel => exact ⟨j + 1, v + z, by go_num, by omega, rfl, HN2⟩
                case measure => first | (simp [intOf]; done) | (simp [intOf]; omega)
              · have e : j = S.length := by omega
                subst e
                have hvT : v = WT := by rw [HV.out, HSS.out]
                subst hvT
                go_wp2_with (first
                  | (go_at_call 28; have g0 := dY; refine (iWaiting_any _ at' fresh (X3.here hbF) hm3 hf3).mono ?_; rintro e vG ⟨rfl, hbG⟩; rw [HWT2.out])
                  | (go_at_call 28; refine (iWaiting_any _ a' f' Y11.out.fls FW.out.len FW.out.each).mono ?_; rintro e vF ⟨rfl, hbF⟩; rw [HW0.out]; have dY : True := trivial; have C : Hid (Cells vF [(b3, 0, .slice ad fs.length c), (b3, 1, .int .i64 at'), (b3, 2, .bool fresh), (b5, 0, .slice a5 Y.length c5), (b5, 1, .int .i64 ya), (b5, 2, .bool yf), (b7, 0, .slice a7 Y.length c7), (b7, 1, .int .i64 ya), (b7, 2, .bool yf)]) := C.out.next hbF; have ⟨⟨kz0, k0⟩, ⟨kz1, k1⟩, ⟨kz2, k2⟩, ⟨kz3, k3⟩, ⟨kz4, k4⟩, ⟨kz5, k5⟩, ⟨kz6, k6⟩, ⟨kz7, k7⟩, ⟨kz8, k8⟩, _⟩ := C.out))
                go_ret
                exact ⟨rfl, below_step (below_step X7 hbF) hbG⟩
          | some p =>
            obtain ⟨m, g, s, SI⟩ := srv_is YK.out.ok (by rw [hfd]; exact fun e => by cases e)
            have HSI : Hid (SrvIs fs' a' f' m g s) := SI
            have HSV : Hid (∀ (w : World) (a : Option Addr) (c : Nat), Fls w.heap.size w a fs' → Calls Try.prog 31 #[turnV a fs'.length c a' f'] w (TurnPost3 w (fs'.set m g) (m : Int) false (m : Int) s)) := fun w a c h => by
              have h' := iServe_any c a' f' h YK.out.few.len YK.out.few.each
              obtain ⟨e1, e2, e3, e4, e5⟩ := HSI.out.fs
              unfold srvY srvYa srvYf srvYi srvYn at h'
              rw [if_pos htk, if_pos htk, if_pos htk, if_pos htk, if_pos htk, e1, e2, e3, e4, e5] at h'
              exact h'
            have hm := SI.lt
            clear SI hfd htk p
            go_upto_region 15 with (first
              | (go_at_call 31; refine (HSV.out _ _ _ YK.out.fls).mono ?_; rintro e vZ ⟨az, cz, rfl, tvz, hbZ⟩))
            obtain ⟨zs, hzs⟩ : ∃ zs, fs'.set m g = zs := ⟨_, rfl⟩
            rw [hzs] at tvz
            have HZO : Hid (TurnsOk zs (m : Int) false) := by have h := HSI.out.ok YK.out.ok; rw [hzs] at h; exact h
            have HZL : Hid (sumL zs zs.length + 1 = sumL fs' fs'.length) := by have h := HSI.out.less1; rw [hzs] at h; exact h
            have HZF : Hid (Few zs) := few_ok HZO.out
            have HZN : Hid (zs.length = fs'.length) := by show zs.length = _; rw [← hzs, List.length_set]
            clear hzs
            rw [HZN.out] at tvz
            obtain ⟨v11, hv⟩ : ∃ v, v = vZ.alloc (.cells #[.slice az fs'.length cz, .int .i64 (m : Int), .bool false] 48) := ⟨_, rfl⟩
            rw [← hv]
            have hbA : Below vZ.heap.size vZ v11 := by rw [hv]; exact new_below _ _
            have hb11 : Below wr.heap.size wr v11 := below_step hbZ hbA
            have q0 : v11.cell? ⟨vZ.heap.size, 0, none⟩ = some (.slice az fs'.length cz) := by rw [hv]; go_simp
            have q1 : v11.cell? ⟨vZ.heap.size, 1, none⟩ = some (.int .i64 (m : Int)) := by rw [hv]; go_simp
            have q2 : v11.cell? ⟨vZ.heap.size, 2, none⟩ = some (.bool false) := by rw [hv]; go_simp
            have qz : vZ.heap.size < v11.heap.size := by rw [hv]; simp
            clear hv
            have TZ : Hid (TV v11 wr.heap.size vZ.heap.size (.slice az fs'.length cz) zs) := tvz.next hbA
            have hn11 : vZ.heap.size ≠ b9 := by have := hbZ.size; omega
            obtain ⟨b11, hb11'⟩ : ∃ b, b = vZ.heap.size := ⟨_, rfl⟩
            rw [← hb11'] at q0 q1 q2 qz hn11 ⊢
            have HT : Hid (vZ.heap.size = b11) := hb11'.symm
            clear hb11'
            have hn9 : b9 ≠ b11 := fun e => hn11 e.symm
            have Y11 : Hid (YSt b9 v11 ad' c' fs' a' f') := YK.out.next hb11
            have HB11 : Hid (Below b9 vP v11) := HBK.out.trans (hb11.mono (by omega))
            have hy9 := yz
            clear y0 y1 y2 yz YK HBK HSV hbZ tvz hbA
            have y0 := Y11.out.c0
            have y1 := Y11.out.c1
            have y2 := Y11.out.c2
            obtain ⟨bf, of, sa, sc, ha', hbf, e0, e1, e2, m1⟩ := Y11.out.fls m hm
            have hpop := HSI.out.pop
            rw [hpop] at e2 m1
            obtain ⟨bs, os, hsa, hbs, d0⟩ := m1 0 (by simp)
            rw [List.getElem_cons_zero, Nat.add_zero] at d0
            rw [List.length_cons] at e2
            subst hsa
            subst ha'
            obtain ⟨G, hG⟩ : ∃ G, g.2.2.length = G := ⟨_, rfl⟩
            have hG1 : G ≤ 100 := by rw [← hG]; exact HSI.out.flow.len
            rw [hG] at e2
            have hmi : (m : Int) < (fs'.length : Int) := by omega
            have hm0 : ¬ (m : Int) < 0 := by omega
            have hfl4 : fs'.length ≤ 30 := Y11.out.ok.l1
            clear m1 hG hpop e0 e1
            have htz : turnsB zs (m : Int) false = true := turns_yes HZO.out
            have HTK : Hid (Calls Try.prog 32 #[turnV az fs'.length cz (m : Int) false] v11 fun e w' => e = .returned (.bool true) ∧ Below v11.heap.size v11 w') := by
              have h := iTurnsOk_any cz (m : Int) false (TV.fls TZ.out).2 HZF.out.len HZF.out.each
              rw [htz, HZN.out] at h
              exact h
            clear htz
            have hz9 := Y11.out.sz
            have hG0 : (((G : Int) + 1) == 0) = false := by rw [beq_eq_false_iff_ne]; omega
            have hml : ¬ fs'.length ≤ m := by omega
            go_wp2_with (first
              | (go_at_call 32; refine HTK.out.mono ?_; rintro e vT ⟨rfl, hbT⟩; have Y12 : Hid (YSt b9 vT (some ⟨bf, of, none⟩) c' fs' a' f') := Y11.out.next hbT; have HB12 : Hid (Below b9 vP vT) := HB11.out.trans (hbT.mono (by omega)); have TZ : Hid (TV vT wr.heap.size vZ.heap.size (.slice az fs'.length cz) zs) := TZ.out.next hbT; have q0 := (hbT.cell (p := ⟨b11, 0, none⟩) qz).trans q0; have q1 := (hbT.cell (p := ⟨b11, 1, none⟩) qz).trans q1; have q2 := (hbT.cell (p := ⟨b11, 2, none⟩) qz).trans q2; have y0 := Y12.out.c0; have y1 := Y12.out.c1; have y2 := Y12.out.c2; have yf9 := Y12.out.fz))
            go_roundw
            case rel => exact ⟨k + 1, az, cz, zs, (m : Int), false, by go_num, by have h1 := HKS.out; have h2 := HZL.out; omega, (by have h := Y12.out.put (zs := zs) (lo := wr.heap.size) (hi := vZ.heap.size) (by omega) (by rw [HZN.out]; exact TZ.out) HZO.out; rw [HZN.out] at h; exact h), y_below HB12.out⟩
            case measure => first | (simp [intOf]; done) | (simp [intOf]; omega)
  · have hbig : (4096 : Int) < (len0 : Int) := by omega
    go_enter Try.func5, Try.ntmps5
    go_wp2
    go_ret
    exact ⟨rfl, Below.refl _ _⟩

/-! ### THE ROW's STEP: WRITTEN OUT: LEAVE IT -/
set_option maxRecDepth 100000 in
theorem lifted (os : Os) (started : os.Started) (H : Type) (enc : TypeId × Value → H) :
    ReturnsInHanded {} Try.checked os 5 .any (Rows.fnServedSpec.pre6 enc Try.prog Try.f5 Rows.fnServedRow.domain false) (Rows.fnServedSpec.post enc Try.prog Try.f5 false true false false) := by
  refine returnsInHanded_of_change (C := Try.checked) own started (by kernel_rfl) Try.func5
    (ChangeSpec.witness6 (enc := enc) (C := Try.checked) false ⟨#[], #[.slice none 0 0], []⟩ 8 (by kernel_rfl) (by kernel_rfl) (by kernel_rfl) (by kernel_rfl)) ?_
  intro W base args ds gs before hval0 hW hcnd _
  have hval : ∀ (j : Nat) t v, Try.f5.params[j]? = some t → args[j]? = some v → Value.okWide Try.prog W .any base t v := hval0
  have hW' := hW
  obtain ⟨p, q, hA0, hV, rfl, hfz, hnd⟩ := hW
  have hA : DataW.TrodAll enc Try.prog W 0 (fun _ => true) true Try.f5.params.toList args.toList ds p := hA0
  rw [Try.params5] at hA hval
  obtain ⟨v0, vs0, d0, ds0, p0, q0, hargs, rfl, rfl, h0, r0⟩ := trodAll_cons hA
  obtain ⟨rfl, rfl, rfl⟩ := trodAll_nil r0
  obtain rfl : args = #[v0] := by cases args; simp_all
  obtain ⟨rfl, rfl⟩ := trodVars_none hV
  obtain ⟨a0, len0, cap0, rfl⟩ := okWide_slice Try.underlying22 (hval 0 22 v0 rfl rfl)
  have k0 := h0
  have lt0 : ∀ x ∈ p0, x.block < W.heap.size := by obtain ⟨m, hm⟩ := k0; exact DataW.trod_lt m _ _ _ hm
  obtain ⟨z0, w0⟩ : ∃ zs, IsRow .u8 W a0 len0 cap0 zs := by
    obtain ⟨fuel, hf⟩ := h0
    rcases open_ints Try.underlying22 Try.underlying5 (by kernel_rfl) hf with ⟨hcs, _⟩ | ⟨x, l, c, zs, hcs, _, hl, hm, hz, _, hcell, hwz⟩
    · simp [Value.cells] at hcs
      obtain ⟨rfl, rfl, rfl⟩ := hcs
      exact ⟨[], .inl ⟨rfl, rfl, rfl, rfl⟩⟩
    · simp [Value.cells] at hcs
      obtain ⟨rfl, rfl, rfl⟩ := hcs
      exact ⟨zs, .inr ⟨_, rfl, hl, hm, by simpa using hz, hcell, hwz⟩⟩
  clear hA0 hval0
  refine (walk a0 len0 cap0 z0 W w0).mono fun e W' ⟨he, bel⟩ => ?_
  subst he
  exact ⟨_, rfl, _, _, _, [], _, [], hW', trodAll_mk1 (shut_bool Try.underlying4 _), (trodAll_cons_mk (Below.trod laidOut (by kernel_rfl) (of_decide_eq_true (by kernel_rfl)) k0 bel lt0) trodAll_mk0), rfl, bel.frame _, fun h => by cases h⟩

theorem over : Rows.fnServedRow.holds Try.pinned (OpenSpec.ofChange Rows.fnServedSpec) :=
  OpenClaim.holds_of_wide 5 Try.f5 rfl rfl rfl rfl rfl rfl rfl ⟨rfl, rfl, rfl, rfl, rfl⟩ rfl rfl rfl rfl rfl (by kernel_rfl) Try.func5 (by kernel_rfl)
    (of_decide_eq_true (by kernel_rfl)) (by unfold Func.isWrapper; first | (rw [if_pos (by decide +kernel)]; kernel_rfl) | (rw [if_neg (by decide +kernel)]; exact ⟨rfl, rfl⟩))
    (fun os started H enc _ => lifted os started H enc)

/-- ████ THE STATEMENT ████ -/
theorem proved : Rows.FnServedSaid := over
#print axioms proved
end Go.Proofs.Ytdgefdjgpneanad.fnServed
namespace Go.Proofs.Ytdgefdjgpneanad
theorem fnServed_holds : Rows.FnServedSaid := fnServed.proved
#print axioms fnServed_holds
end Go.Proofs.Ytdgefdjgpneanad
