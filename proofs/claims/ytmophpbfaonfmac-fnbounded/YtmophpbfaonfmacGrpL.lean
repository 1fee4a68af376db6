/- Lemmas on the way, of several texts: LendV, LendW. -/
import Derived.Test.YtmophpbfaonfmacGrpF
import Derived.Test.YtmophpbfaonfmacGrpG
import Derived.Test.YtmophpbfaonfmacGrpC
import Derived.Deep.Strs
import Derived.Deep.DeepCutAuto
namespace Go.Proofs.Ytmophpbfaonfmac
open Go.ChangeShapes Go.WideShapes Go.ChangeAt Go.RowKit
set_option maxRecDepth 100000
set_option linter.unusedVariables false
set_option linter.unusedSimpArgs false

abbrev lendV (aT : Option Addr) (nT cT : Nat) (aO : Option Addr) (nO cO : Nat) (aP : Option Addr) (nP cP : Nat) : Value := .agg #[.slice aT nT cT, .slice aO nO cO, .slice aP nP cP]
end Go.Proofs.Ytmophpbfaonfmac
namespace Go.Proofs.Ytmophpbfaonfmac
open Go.ChangeShapes Go.WideShapes Go.ChangeAt Go.RowKit
set_option maxRecDepth 100000
set_option linter.unusedVariables false
set_option linter.unusedSimpArgs false

/-- Only blocks of which p says so have turned. -/
structure OnlyP (p : Nat → Prop) (w w' : World) : Prop where
  os : w'.os = w.os
  tape : w'.tape = w.tape
  output : w'.output = w.output
  size : w.heap.size ≤ w'.heap.size
  block : ∀ k, k < w.heap.size → ¬ p k → w'.heap[k]? = w.heap[k]?
theorem OnlyP.of {o : Option Nat} {w w' : World} (h : OnlyO o w w') : OnlyP (fun k => o = some k) w w' := ⟨h.os, h.tape, h.output, h.size, h.block⟩
theorem OnlyP.refl (p : Nat → Prop) (w : World) : OnlyP p w w := ⟨rfl, rfl, rfl, Nat.le_refl _, fun _ _ _ => rfl⟩
theorem OnlyP.trans {p q : Nat → Prop} {u v w : World} (h : OnlyP p u v) (k : OnlyP q v w) : OnlyP (fun b => p b ∨ q b) u w :=
  ⟨k.os.trans h.os, k.tape.trans h.tape, k.output.trans h.output, Nat.le_trans h.size k.size, fun b hb hn => (k.block b (Nat.lt_of_lt_of_le hb h.size) (fun e => hn (.inr e))).trans (h.block b hb (fun e => hn (.inl e)))⟩
theorem OnlyP.of_below {p : Nat → Prop} {w w' : World} (h : Below w.heap.size w w') : OnlyP p w w' := ⟨h.os, h.tape, h.output, h.size, fun k hk _ => h.block k hk⟩
theorem OnlyP.weak {p q : Nat → Prop} {w w' : World} (h : OnlyP p w w') (hp : ∀ k, p k → q k) : OnlyP q w w' := ⟨h.os, h.tape, h.output, h.size, fun k hk hn => h.block k hk (fun e => hn (hp k e))⟩
theorem OnlyP.below {p : Nat → Prop} {w w' : World} {B : Nat} (h : OnlyP p w w') (hp : ∀ k, p k → B ≤ k) (hB : B ≤ w.heap.size) : Below B w w' :=
  ⟨h.os, h.tape, h.output, h.size, fun k hk => h.block k (by omega) (fun e => by have := hp k e; omega)⟩
theorem QFill.onlyP {w w' : World} {g n k : Nat} {xs : List Q4} {p : Nat → Prop} (f : QFill w g n xs k) (ho : OnlyP p w w') (hg : g < w.heap.size) (hn : ¬ p g) : QFill w' g n xs k := by
  have e := ho.block g hg hn
  have hc : ∀ j, w'.cell? ⟨g, j, none⟩ = w.cell? ⟨g, j, none⟩ := fun j => World.cell?_of_block e
  have hf : ∀ j, w'.frozen? ⟨g, j, none⟩ = w.frozen? ⟨g, j, none⟩ := fun j => World.frozen?_of_block e
  refine ⟨fun j hj => ?_, fun i hi hk => ?_⟩
  · rw [hc, hf]
    exact f.any j hj
  · rw [hc, hc, hc, hc]
    exact f.got i hi hk
theorem QV.onlyP {w w' : World} {lo : Nat} {p : Nat → Prop} {v : Value} {xs : List Q4} (h : QV w lo v xs) (hb : OnlyP p w w') (hv : ∀ g, roomB v = some g → ¬ p g) : QV w' lo v xs := by
  rcases h.room with ⟨g, cap, rfl, h1, h2, f, hc⟩ | h
  · exact .inl ⟨g, _, rfl, h1, Nat.lt_of_lt_of_le h2 hb.size, f.onlyP hb h2 (hv g rfl), hc⟩
  · exact .inr h
theorem LV.onlyP {w w' : World} {lo : Nat} {p : Nat → Prop} {sT sO sP : Value} {T O P : List Q4} (h : LV w lo sT sO sP T O P) (hb : OnlyP p w w') (h1 : ∀ g, roomB sT = some g → ¬ p g) (h2 : ∀ g, roomB sO = some g → ¬ p g) (h3 : ∀ g, roomB sP = some g → ¬ p g) : LV w' lo sT sO sP T O P :=
  ⟨h.t.onlyP hb h1, h.o.onlyP hb h2, h.p.onlyP hb h3, h.to, h.tp, h.op⟩
/-- The blocks of three lists. -/
def inL (sT sO sP : Value) (k : Nat) : Prop := roomB sT = some k ∨ roomB sO = some k ∨ roomB sP = some k
theorem LV.lo {w : World} {lo : Nat} {sT sO sP : Value} {T O P : List Q4} (h : LV w lo sT sO sP T O P) {k : Nat} (hk : inL sT sO sP k) : lo ≤ k ∧ k < w.heap.size := by
  rcases hk with e | e | e
  · exact h.t.own e
  · exact h.o.own e
  · exact h.p.own e
theorem set_three {w : World} {g : Nat} {u0 u1 u2 : Value} (a b c : Value) (h0 : w.cell? ⟨g, 0, none⟩ = some u0) (h1 : w.cell? ⟨g, 1, none⟩ = some u1) (h2 : w.cell? ⟨g, 2, none⟩ = some u2) :
    ∀ j v, [a, b, c][j]? = some v → (((w.setCell ⟨g, 0, none⟩ a).setCell ⟨g, 1, none⟩ b).setCell ⟨g, 2, none⟩ c).cell? ⟨g, j, none⟩ = some v := by
  have other : ∀ (x : World) (i k : Nat) (v : Value), i ≠ k → (x.setCell ⟨g, i, none⟩ v).cell? ⟨g, k, none⟩ = x.cell? ⟨g, k, none⟩ := fun x i k v h => World.cell?_setCell_other _ _ _ _ (fun e => h (by injection e with _ e _))
  intro j v hv
  match j, hv with
  | 0, hv => obtain rfl : a = v := by simpa using hv
             exact (other _ 2 0 _ (by decide)).trans ((other _ 1 0 _ (by decide)).trans (set_same _ h0))
  | 1, hv => obtain rfl : b = v := by simpa using hv
             exact (other _ 2 1 _ (by decide)).trans (set_same _ ((other _ 0 1 _ (by decide)).trans h1))
  | 2, hv => obtain rfl : c = v := by simpa using hv
             exact set_same _ ((other _ 1 2 _ (by decide)).trans ((other _ 0 2 _ (by decide)).trans h2))
theorem apart_by {a b n m c d g : Nat} (h1 : roomB (.slice (some ⟨a, 0, none⟩) n c) = some g) (h2 : roomB (.slice (some ⟨b, 0, none⟩) m d) = some g) (h : a < b) : False := by
  cases c with
  | zero => cases h1
  | succ c =>
    cases d with
    | zero => cases h2
    | succ d =>
      have e1 : a = g := Option.some.inj h1
      have e2 : b = g := Option.some.inj h2
      omega
end Go.Proofs.Ytmophpbfaonfmac
