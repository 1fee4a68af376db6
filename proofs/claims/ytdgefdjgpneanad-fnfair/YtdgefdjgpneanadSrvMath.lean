/- What a Serve leaves: as many flows; the answer of Turns and two numbers. -/
import Derived.Test.YtdgefdjgpneanadServeMath
import Derived.Test.YtdgefdjgpneanadFlwApp
namespace Go.Proofs.Ytdgefdjgpneanad
open Go.ChangeShapes Go.WideShapes Go.ChangeAt Go.RowKit
set_option maxRecDepth 100000
set_option linter.unusedVariables false
set_option linter.unusedSimpArgs false

theorem srv_length (fs : List F8) (at' : Int) (fresh : Bool) : (srvFs fs at' fresh).length = fs.length := by
  unfold srvFs
  split
  · rw [List.length_set]
  · rfl
/-- What is answered: Turns of its own, and two numbers. -/
def TurnPost3 (w : World) (fs : List F8) (at' : Int) (fresh : Bool) (i n : Int) (e : Ending) (w' : World) : Prop :=
  ∃ a c, e = .returned (.tuple #[turnV a fs.length c at' fresh, .int .i64 i, .int .i64 n]) ∧ TV w' w.heap.size w'.heap.size (.slice a fs.length c) fs ∧ Below w.heap.size w w'
def srvY (fs : List F8) (at' : Int) (fresh : Bool) : List F8 := if turnsB fs at' fresh = true then srvFs fs at' fresh else []
def srvYa (fs : List F8) (at' : Int) (fresh : Bool) : Int := if turnsB fs at' fresh = true then srvAt fs at' fresh else 0
def srvYf (fs : List F8) (at' : Int) (fresh : Bool) : Bool := if turnsB fs at' fresh = true then srvFr fs at' fresh else false
def srvYi (fs : List F8) (at' : Int) (fresh : Bool) : Int := if turnsB fs at' fresh = true then srvI fs at' fresh else -1
def srvYn (fs : List F8) (at' : Int) (fresh : Bool) : Int := if turnsB fs at' fresh = true then srvN fs at' fresh else 0
section
variable {P : Program}
theorem results_tri3 {fn : Func} {p u1 u2 : Tmp} {ty : TypeId} (h : fn.results = #[.cell p ty, .tmp u1, .tmp u2]) (tmps : Array Value) (w : World) (g : Nat) (cs : List Value) {d : TypeDesc}
    (hp : tmps.getD p undef = .pointer (some ⟨g, 0, none⟩)) (hc : ∀ j v, cs[j]? = some v → w.cell? ⟨g, j, none⟩ = some v)
    (hu : P.underlying ty = some d) (hd : (match d with | .struct _ | .array _ _ => true | _ => false) = true) (hi : (P.info? ty).map (·.size) = some cs.length) :
    (results fn tmps).run P w = .ok (.tuple #[.agg cs.toArray, tmps.getD u1 undef, tmps.getD u2 undef]) w := by
  have hp' : tmps[p]?.getD undef = .pointer (some ⟨g, 0, none⟩) := by simpa using hp
  have hl := loadVar_cells (P := P) w g 0 ty cs (fun j v hv => by rw [Nat.zero_add]; exact hc j v hv) hu hd hi
  simp [results, h, hp', asAddr, hl, Sem.run_bind, Result.andThen]
end
theorem put3_res {w : World} {g : Nat} (a b c : Value) {z0 z1 z2 : Value} (h0 : w.cell? ⟨g, 0, none⟩ = some z0) (h1 : w.cell? ⟨g, 1, none⟩ = some z1) (h2 : w.cell? ⟨g, 2, none⟩ = some z2) :
    ∀ j v, [a, b, c][j]? = some v → (((w.setCell ⟨g, 0, none⟩ a).setCell ⟨g, 1, none⟩ b).setCell ⟨g, 2, none⟩ c).cell? ⟨g, j, none⟩ = some v := by
  have h := put3_same (o := 0) a b c h0 h1 h2
  intro j v hv
  match j, hv with
  | 0, hv => obtain rfl : a = v := by simpa using hv
             exact h.1
  | 1, hv => obtain rfl : b = v := by simpa using hv
             exact h.2.1
  | 2, hv => obtain rfl : c = v := by simpa using hv
             exact h.2.2
/-- The flows, behind three stores into the answer's place. -/
theorem post3 {w W : World} {lo hi g b cap n : Nat} {vs : List Value} {Y : List F8} (F : FO W lo hi g n vs Y) (hn : Y.length = n) (hc : n ≤ cap) (hl : w.heap.size ≤ b) (hb : b < lo) (hw : Below w.heap.size w W) (x y z : Value) (at' : Int) (fresh : Bool) (i m : Int) :
    TurnPost3 w Y at' fresh i m (.returned (.tuple #[turnV (some ⟨g, 0, none⟩) n cap at' fresh, .int .i64 i, .int .i64 m])) (((W.setCell ⟨b, 0, none⟩ x).setCell ⟨b, 1, none⟩ y).setCell ⟨b, 2, none⟩ z) := by
  subst hn
  refine ⟨_, cap, rfl, .inl ⟨g, cap, vs, rfl, hc, ?_⟩, ((hw.setCell (by exact hl) _).setCell (by exact hl) _).setCell (by exact hl) _⟩
  have F2 : FO (((W.setCell ⟨b, 0, none⟩ x).setCell ⟨b, 1, none⟩ y).setCell ⟨b, 2, none⟩ z) lo hi g Y.length vs Y := F.same (by simp) (fun k h1 h2 => by
    rw [Below.heap_setCell _ _ _ _ (by show k ≠ b; omega), Below.heap_setCell _ _ _ _ (by show k ≠ b; omega), Below.heap_setCell _ _ _ _ (by show k ≠ b; omega)])
  exact F2.wider (by omega) F2.top (Nat.le_refl _)
end Go.Proofs.Ytdgefdjgpneanad
