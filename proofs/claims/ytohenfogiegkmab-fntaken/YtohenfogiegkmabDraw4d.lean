/- The draws of chapter 4 for its later laws. -/
import Derived.Test.YtohenfogiegkmabDraw4c
import Derived.Deep.DeepCutAuto
namespace Go.Proofs.Ytohenfogiegkmab
open Go.ChangeShapes Go.WideShapes Go.ChangeAt Go.RowKit
set_option maxRecDepth 100000
set_option linter.unusedVariables false
set_option linter.unusedSimpArgs false

set_option maxHeartbeats 1000000 in
theorem drawNow4_acc {B : Nat} {a0 : Option Addr} {len cap b : Nat} {w0 w : World} (at' : Int) (c : Cur B a0 len cap b w) (o : Only b w0 w) :
    Calls Try.prog 62 #[.pointer (some ⟨b, 0, none⟩), .int .i64 at'] w fun e w' => ∃ x : Int, e = .returned (.int .i64 x) ∧ Cur B a0 len cap b w' ∧ Only b w0 w' := by
  go_enter Try.func62, Try.ntmps62
  go_wp2_with (first
    | (go_at_call 39; refine (once_acc _ c o (by omega) (by omega)).mono ?_; rintro e w2 ⟨f, rfl, c2, o2⟩; cases f)
    | (go_at_call 60; refine (drawTime_acc c2 o2).mono ?_; rintro e w3 ⟨x3, rfl, _, c3, o3⟩)
    | (go_at_call 40; have gq := c3; refine (below_acc _ c3 o3 (by omega) (by omega)).mono ?_; rintro e w4 ⟨x4, rfl, hx4, c4, o4⟩)
    | (go_at_call 40; refine (below_acc _ c2 o2 (by omega) (by omega)).mono ?_; rintro e w3 ⟨x3, rfl, hx3, c3, o3⟩))
  all_goals go_ret
  all_goals first | exact ⟨_, rfl, c4, o4⟩ | exact ⟨_, rfl, c3, o3⟩
/-- A bucket in a variable of the draw's own, the answer's place, and the cursor. -/
structure R4 (B : Nat) (a0 : Option Addr) (len cap b : Nat) (w wr : World) (g : Nat) (r u l t : Int) : Prop where
  cur : Cur B a0 len cap b wr
  hb : Below w.heap.size w wr
  res : Four wr w.heap.size 0 0 0 0
  var : Four wr g r u l t
  lo : w.heap.size < g
  hi : g < wr.heap.size
  nb : g ≠ b
  nw : w.heap.size < b
theorem R4.draw {B : Nat} {a0 : Option Addr} {len cap b : Nat} {w wr w2 : World} {g : Nat} {r u l t : Int} (d : R4 B a0 len cap b w wr g r u l t) (o : Only b wr w2) (k : Cur B a0 len cap b w2) : R4 B a0 len cap b w w2 g r u l t :=
  have h1 := d.lo; have h2 := d.hi; have h3 := d.nw
  ⟨k, d.hb.trans (o.below (by omega) (by omega)), d.res.only o (by omega) (by omega), d.var.only o d.hi d.nb, d.lo, Nat.lt_of_lt_of_le d.hi o.size, d.nb, d.nw⟩
theorem R4.next {B : Nat} {a0 : Option Addr} {len cap b : Nat} {w wr w2 : World} {g : Nat} {r u l t : Int} (d : R4 B a0 len cap b w wr g r u l t) (h : Below wr.heap.size wr w2) : R4 B a0 len cap b w w2 g r u l t := d.draw (Only.of_below h) (d.cur.mono h)
section
variable {P : Program}
theorem results_3b {fn : Func} {p u1 u2 : Tmp} {ty : TypeId} (h : fn.results = #[.cell p ty, .tmp u1, .tmp u2]) (tmps : Array Value) (w : World) (g : Nat) (cs : List Value) {d : TypeDesc}
    (hp : tmps.getD p undef = .pointer (some ⟨g, 0, none⟩)) (hc : ∀ j v, cs[j]? = some v → w.cell? ⟨g, j, none⟩ = some v)
    (hu : P.underlying ty = some d) (hd : (match d with | .struct _ | .array _ _ => true | _ => false) = true) (hi : (P.info? ty).map (·.size) = some cs.length) :
    (results fn tmps).run P w = .ok (.tuple #[.agg cs.toArray, tmps.getD u1 undef, tmps.getD u2 undef]) w := by
  have hp' : tmps[p]?.getD undef = .pointer (some ⟨g, 0, none⟩) := by simpa using hp
  have hl := loadVar_cells (P := P) w g 0 ty cs (fun j v hv => by rw [Nat.zero_add]; exact hc j v hv) hu hd hi
  simp [results, h, hp', asAddr, hl, Sem.run_bind, Result.andThen]
theorem results_4b {fn : Func} {p u1 u2 u3 : Tmp} {ty : TypeId} (h : fn.results = #[.cell p ty, .tmp u1, .tmp u2, .tmp u3]) (tmps : Array Value) (w : World) (g : Nat) (cs : List Value) {d : TypeDesc}
    (hp : tmps.getD p undef = .pointer (some ⟨g, 0, none⟩)) (hc : ∀ j v, cs[j]? = some v → w.cell? ⟨g, j, none⟩ = some v)
    (hu : P.underlying ty = some d) (hd : (match d with | .struct _ | .array _ _ => true | _ => false) = true) (hi : (P.info? ty).map (·.size) = some cs.length) :
    (results fn tmps).run P w = .ok (.tuple #[.agg cs.toArray, tmps.getD u1 undef, tmps.getD u2 undef, tmps.getD u3 undef]) w := by
  have hp' : tmps[p]?.getD undef = .pointer (some ⟨g, 0, none⟩) := by simpa using hp
  have hl := loadVar_cells (P := P) w g 0 ty cs (fun j v hv => by rw [Nat.zero_add]; exact hc j v hv) hu hd hi
  simp [results, h, hp', asAddr, hl, Sem.run_bind, Result.andThen]
end
def FillPost (w : World) (e : Ending) (w' : World) : Prop := ∃ r u l t now, e = .returned (.tuple #[.agg #[.int .i64 r, .int .i64 u, .int .i64 l, .int .i64 t], .int .i64 now]) ∧ Below w.heap.size w w'
def TakePost (w : World) (e : Ending) (w' : World) : Prop := ∃ r u l t now n, e = .returned (.tuple #[.agg #[.int .i64 r, .int .i64 u, .int .i64 l, .int .i64 t], .int .i64 now, .int .i64 n]) ∧ Below w.heap.size w w'
set_option maxHeartbeats 4000000 in
theorem drawTake_any {B : Nat} {a0 : Option Addr} {len : Nat} (cap : Nat) {w : World} (hs : len ≤ 4096) (row : Row B a0 len w) (hB : B ≤ w.heap.size) :
    Calls Try.prog 28 #[.slice a0 len cap] w (TakePost w) := by
  have f0 : Four (w.alloc (.cells #[.int .i64 0, .int .i64 0, .int .i64 0, .int .i64 0] 49)) w.heap.size 0 0 0 0 := ⟨by go_simp, by go_simp, by go_simp, by go_simp, fun i => by go_simp⟩
  go_enter Try.func28, Try.ntmps28
  go_upto_region 3 with (first
    | (go_at_call 37; refine (new_any cap hs (row.mono ((Below.refl B w).alloc hB _)) (by simp; omega)).mono ?_; rintro e w1 ⟨b, rfl, hb, k1, hb1⟩; have hb' : w.heap.size < b := (by simp at hb; omega); have f1 := f0.only (Only.of_below (b := b) hb1) (by simp) (by omega); have hbw := start1 hb1; have z1 := hbw.size)
    | (go_at_call 61; refine (l4Draw_acc k1).mono ?_; rintro e w2 ⟨r, u, l, t, rfl, k2, o2⟩; have h1 := k1.hi; have f2 := f1.only o2 (by omega) (by omega); have zz := o2.size; have hbw := hbw.trans (o2.below (by omega) (by omega))))
  obtain ⟨v, hv⟩ : ∃ v, v = w2.alloc (.cells #[.int .i64 r, .int .i64 u, .int .i64 l, .int .i64 t] 49) := ⟨_, rfl⟩
  rw [← hv]
  have D : Hid (R4 B a0 len cap b w v w2.heap.size r u l t) := by
    rw [hv]
    have hw2 := hbw.size
    have hk := k2.hi
    exact ⟨k2.alloc _, below_two hbw (new_below _ _), f2.only (Only.of_below (b := b) (new_below _ _)) (by omega) (by omega), ⟨by go_simp, by go_simp, by go_simp, by go_simp, fun i => by go_simp⟩, by omega, by simp, by omega, by omega⟩
  have j0 := D.out.var.c0
  have j1 := D.out.var.c1
  have j2 := D.out.var.c2
  have j3 := D.out.var.c3
  have q0 := D.out.res.c0
  have q1 := D.out.res.c1
  have q2 := D.out.res.c2
  have q3 := D.out.res.c3
  have qf := D.out.res.fr
  have hlo := D.out.lo
  have hhi := D.out.hi
  have hz := D.out.nb
  have hzw := D.out.nw
  have n2 : w2.heap.size ≠ w.heap.size := by omega
  have n3 : w.heap.size ≠ w2.heap.size := by omega
  clear hv f2 k2 o2 hbw f1 k1 hb1 f0
  go_upto_region 4 with (first | (go_at_call 62; refine (drawNow4_acc t D.out.cur (Only.refl _ _)).mono ?_; rintro e w3 ⟨x3, rfl, k3, o3⟩; have D3 : Hid (R4 B a0 len cap b w w3 w2.heap.size r u l t) := D.out.draw o3 k3; have j0 := D3.out.var.c0; have j1 := D3.out.var.c1; have j2 := D3.out.var.c2; have j3 := D3.out.var.c3; have q0 := D3.out.res.c0; have q1 := D3.out.res.c1; have q2 := D3.out.res.c2; have q3 := D3.out.res.c3; have qf := D3.out.res.fr; have hlo := D3.out.lo; have hhi := D3.out.hi; have hz := D3.out.nb; have hzw := D3.out.nw))
  have E : Hid (R4 B a0 len cap b w w3.drew w2.heap.size r u l t) := D3.out.next (Below.refl _ _).drew
  go_region_held3 (fun w' => w'.cell? ⟨w2.heap.size, 0, none⟩ = some (.int .i64 r) ∧ w'.cell? ⟨w2.heap.size, 1, none⟩ = some (.int .i64 u) ∧ w'.cell? ⟨w2.heap.size, 2, none⟩ = some (.int .i64 l) ∧ w'.cell? ⟨w2.heap.size, 3, none⟩ = some (.int .i64 t)) (go_keep)
    (first | (go_at_call 63; refine (drawSize_acc E.out.cur (Only.refl _ _)).mono ?_; rintro e w4 ⟨x4, rfl, k4, o4⟩; have D4 : Hid (R4 B a0 len cap b w w4 w2.heap.size r u l t) := E.out.draw o4 k4; have j0 := D4.out.var.c0; have j1 := D4.out.var.c1; have j2 := D4.out.var.c2; have j3 := D4.out.var.c3; have q0 := D4.out.res.c0; have q1 := D4.out.res.c1; have q2 := D4.out.res.c2; have q3 := D4.out.res.c3; have qf := D4.out.res.fr; have hlo := D4.out.lo; have hhi := D4.out.hi; have hz := D4.out.nb; have hzw := D4.out.nw))
  go_wp2
  refine bodyPost_ret (results_3b rfl _ _ _ [.int .i64 r, .int .i64 u, .int .i64 l, .int .i64 t] rfl (cells_set4 _ _ _ _ q0 q1 q2 q3) Try.underlying49 rfl (by kernel_rfl)) rfl ?_
  exact ⟨r, u, l, t, x3, x4, rfl, (((D4.out.hb.setCell (by exact Nat.le_refl _) _).setCell (by exact Nat.le_refl _) _).setCell (by exact Nat.le_refl _) _).setCell (by exact Nat.le_refl _) _⟩
def ResetPost (w : World) (e : Ending) (w' : World) : Prop := ∃ r u l t r' u' now, e = .returned (.tuple #[.agg #[.int .i64 r, .int .i64 u, .int .i64 l, .int .i64 t], .int .i64 r', .int .i64 u', .int .i64 now]) ∧ Below w.heap.size w w'
end Go.Proofs.Ytohenfogiegkmab
