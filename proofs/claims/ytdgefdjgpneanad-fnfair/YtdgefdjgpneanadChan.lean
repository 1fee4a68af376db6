/- Walks in which one goroutine sends into a channel that has room, and receives from one that holds something or is closed: a frame that is not early. -/
import Derived.Test.YtdgefdjgpneanadRows
import Derived.WalkKit
import Derived.ProofKit
import Derived.OpenShut
import Derived.Below
import Derived.Conc.LoneCalls
namespace Go.Proofs.Ytdgefdjgpneanad
open Go.ChangeShapes Go.WideShapes Go.ChangeAt Go.RowKit Go.Conc
set_option maxRecDepth 100000
set_option linter.unusedVariables false

section
variable {P : Program} {b : Frame} {Q : Exit → Act → World → Prop} {a : Act} {w : World}
/-- As Code.wp, of one frame. -/
def wpB (P : Program) (b : Frame) (c : Code) (Q : Exit → Act → World → Prop) (a : Act) (w : World) : Prop :=
  ∀ (k : List Item) (cs : List Frame), ∃ e a' w', Q e a' w' ∧ Arrives P (lone (b.at a (.code c :: k)) cs w) b k cs e a' w'
theorem wpB_of {c : Code} (h : c.wp P Q a w) : wpB P b c Q a w := h b
theorem wpB_seq {x y : Code} (h : wpB P b x (Exit.then (wpB P b y Q) Q) a w) : wpB P b (.seq x y) Q a w := fun k cs => by
  obtain ⟨e, a1, w1, hq, ha⟩ := h (.code y :: k) cs
  by_cases hn : e = .normal
  · subst hn
    obtain ⟨e2, a2, w2, q2, h2⟩ := hq k cs
    exact ⟨e2, a2, w2, q2, Arrives.of_steps (Steps.one step_seq) (Arrives.of_steps ha h2)⟩
  · have q : Q e a1 w1 := by cases e <;> first | exact absurd rfl hn | exact hq
    exact ⟨e, a1, w1, q, Arrives.of_steps (Steps.one step_seq) (Arrives.pass (x := .code y) rfl (fun _ _ => .inl hn) ha)⟩
theorem wpB_seq_k {x y : Code} (h : ∀ K : Act → World → Prop, (∀ a w, wpB P b y Q a w → K a w) → wpB P b x (Exit.then K Q) a w) : wpB P b (.seq x y) Q a w := wpB_seq (h _ fun _ _ h => h)
theorem wpB_block {id : Nat} {c : Code} (h : wpB P b c (Exit.inBlock id Q) a w) : wpB P b (.block id c) Q a w := fun k cs => by
  obtain ⟨e, a1, w1, hq, ha⟩ := h (.inBlock id :: k) cs
  have st := Steps.one (step_block (P := P) (b := b) (a := a) (k := k) (cs := cs) (w := w) (id := id) (c := c))
  match e, hq, ha with
  | .normal, hq, ha => exact ⟨.normal, a1, w1, hq, (st.trans ha).trans (Steps.one step_inBlock)⟩
  | .exit id', hq, ha =>
    by_cases hid : id' = id
    · subst hid
      have q : Q .normal a1 w1 := by simpa [Exit.inBlock] using hq
      exact ⟨.normal, a1, w1, q, st.trans (ha k (by simp [exitTo]))⟩
    · have q : Q (.exit id') a1 w1 := by simpa [Exit.inBlock, hid] using hq
      have hne : (id == id') = false := by simpa using fun h : id = id' => hid h.symm
      exact ⟨.exit id', a1, w1, q, fun k' hk => st.trans (ha k' (by simp [exitTo, hne, hk]))⟩
  | .goto l, hq, ha => exact ⟨.goto l, a1, w1, hq, fun k' hk => st.trans (ha k' (by simp [gotoIn, hk]))⟩
  | .ret, hq, ha => exact ⟨.ret, a1, w1, hq, Arrives.of_steps (e := .ret) st ha⟩
  | .panic ch, hq, ha => exact ⟨.panic ch, a1, w1, hq, Arrives.of_steps (e := .panic ch) st ha⟩
  | .outgrown, hq, ha => exact ⟨.outgrown, a1, w1, hq, Arrives.of_steps (e := .outgrown) (b := b) (k := k) (cs := cs) (a := a1) (w := w1) st ha⟩
def Less (I : Nat → Act → World → Prop) (n : Nat) (a : Act) (w : World) : Prop := ∃ m, m < n ∧ I m a w
/-- A loop: what is held, by a number that goes down. -/
theorem wpB_loop {c : Code} (I : Nat → Act → World → Prop) (round : ∀ n a w, I n a w → wpB P b c (Exit.then (Less I n) Q) a w) {n : Nat} (h0 : I n a w) : wpB P b (.loop c) Q a w := fun k cs => by
  have key : ∀ n, (∀ m, m < n → ∀ a w, I m a w → ∃ e a' w', Q e a' w' ∧ Arrives P (lone (b.at a (.code c :: .inLoop c :: k)) cs w) b k cs e a' w') → ∀ a w, I n a w → ∃ e a' w', Q e a' w' ∧ Arrives P (lone (b.at a (.code c :: .inLoop c :: k)) cs w) b k cs e a' w' := by
    intro n ih a w hI
    obtain ⟨e, a1, w1, hq, ha⟩ := round n a w hI (.inLoop c :: k) cs
    by_cases hn : e = .normal
    · subst hn
      obtain ⟨m, hm, hI1⟩ := hq
      obtain ⟨e2, a2, w2, q2, h2⟩ := ih m hm a1 w1 hI1
      exact ⟨e2, a2, w2, q2, Arrives.of_steps (Steps.trans ha (Steps.one step_inLoop)) h2⟩
    · have q : Q e a1 w1 := by cases e <;> first | exact absurd rfl hn | exact hq
      exact ⟨e, a1, w1, q, Arrives.pass (x := .inLoop c) rfl (fun _ _ => .inl hn) ha⟩
  obtain ⟨e, a', w', q, h⟩ := Nat.strongRecOn (motive := fun n => ∀ a w, I n a w → ∃ e a' w', Q e a' w' ∧ Arrives P (lone (b.at a (.code c :: .inLoop c :: k)) cs w) b k cs e a' w') n (fun n ih => key n ih) a w h0
  exact ⟨e, a', w', q, Arrives.of_steps (Steps.one step_loop) h⟩
theorem calls_of_wpB {f : FuncId} {fn : Func} {c : Code} {args : Array Value} {R : Ending → World → Prop} (hf : P.funcs[f]? = some fn) (hb : fn.body = some c)
    (h : ∀ b : Frame, b.kind = .normal → wpB P b c (bodyPost P fn R) { tmps := args ++ Array.replicate (fn.ntmps - args.size) undef, defers := [] } w) : Calls P f args w R := by
  intro cs
  obtain ⟨e, a', w', hq, ha⟩ := h { (default : Frame) with fn := f, kind := .normal } rfl [] cs
  have he : Frame.enter P f args .normal = Frame.at { (default : Frame) with fn := f, kind := .normal } { tmps := args ++ Array.replicate (fn.ntmps - args.size) undef, defers := [] } [.code c] := by simp [Frame.enter, Frame.at, hf, hb]
  rw [← he] at ha
  match e, hq, ha with
  | .normal, ⟨hd, v, hr, hR⟩, ha => exact ⟨.returned v, w', _, hR, Steps.trans ha (Steps.one step_end), rfl, rfl, hd, rfl, fn, hf, hr⟩
  | .ret, ⟨hd, v, hr, hR⟩, ⟨todo, hs⟩ => exact ⟨.returned v, w', _, hR, hs, rfl, rfl, hd, rfl, fn, hf, hr⟩
  | .panic chain, ⟨hd, hR⟩, ⟨todo, hs⟩ => exact ⟨.panicked chain, w', _, hR, hs, rfl, rfl, hd, fn, hf⟩
  | .exit id, hq, _ => exact hq.elim
  | .goto l, hq, _ => exact hq.elim
  | .outgrown, hq, ha => exact ⟨.outgrown, w', { (default : Frame) with fn := f, kind := .normal }, hq, ha.resolve_left (by simp), rfl, trivial⟩
/-! A region, operation by operation -/
def wpL (P : Program) (b : Frame) (ops : Array Oper) (Q : Exit → Act → World → Prop) (l : List Nat) (a : Act) (w : World) : Prop :=
  ∀ (k : List Item) (cs : List Frame), ∃ e a' w', Q e a' w' ∧ Arrives P (lone (b.at a (.inRegion ops l :: k)) cs w) b k cs e a' w'
variable {ops : Array Oper} {i : Nat} {rest : List Nat} {o : Oper}
theorem wpB_region {id : Nat} (h : wpL P b ops Q (List.range ops.size) a w) : wpB P b (.region id ops false) Q a w := fun k cs => by
  obtain ⟨e, a', w', q, r⟩ := h k cs
  exact ⟨e, a', w', q, Arrives.of_steps (Steps.one step_region) r⟩
theorem wpL_nil (h : Q .normal a w) : wpL P b ops Q [] a w := fun k cs => ⟨.normal, a, w, h, Steps.one step_region_end⟩
theorem finish_here (ho : ops[i]? = some o) (k : List Item) (v : Value) : (b.at a (.inRegion ops (i :: rest) :: k)).finish v = b.at (a.put o.dst v) (.inRegion ops rest :: k) := by
  rw [Frame.finish_at, ho]
  rfl
theorem wpL_value {v : Value} {w' : World} (ho : ops[i]? = some o) (hw : Region.wanted o (yielded ops a.tmps) = true) (hr : (execOp a.eval o).run P w = .ok (.value v) w') (h : wpL P b ops Q rest (a.put o.dst v) w') : wpL P b ops Q (i :: rest) a w := fun k cs => by
  obtain ⟨e, a2, w2, q, r⟩ := h k cs
  refine ⟨e, a2, w2, q, Arrives.of_steps (Steps.one (step_lone_go ?_)) r⟩
  rw [stepG_op ho hw, ← finish_here ho]
  simp [stepG.apply, hr]
theorem wpL_still {v : Value} (ho : ops[i]? = some o) (hw : Region.wanted o (yielded ops a.tmps) = true) (hr : (execOp a.eval o).run P w = .ok (.value v) w) (h : wpL P b ops Q rest (a.put o.dst v) w) : wpL P b ops Q (i :: rest) a w := wpL_value ho hw hr h
theorem wpL_send {c cap s r : Nat} {buf : Array Value} {tm : Bool} {v z : Value} (hk : b.kind = .normal) (ho : ops[i]? = some o) (hw : Region.wanted o (yielded ops a.tmps) = true) (hr : (execOp a.eval o).run P w = .ok (.comm #[scase c v z] true .send) w)
    (hc : w.heap[c]? = some (.chan cap buf false s r tm)) (hroom : buf.size < cap) (h : wpL P b ops Q rest (a.put o.dst undef) (w.setChan c cap (buf.push v) false (s + 1) r tm)) : wpL P b ops Q (i :: rest) a w := fun k cs => by
  obtain ⟨e, a2, w2, q, r'⟩ := h k cs
  refine ⟨e, a2, w2, q, Arrives.of_steps (Steps.one ?_) r'⟩
  rw [lone_eq_solo, lone_eq_solo, ← finish_here ho]
  exact step_lone_send_room (stepG_comm ho hw (by rw [hk]; decide) hr) hc hroom
theorem wpL_recv {c cap s r : Nat} {buf : Array Value} {tm closed : Bool} {z : Value} (ok : Bool) (hk : b.kind = .normal) (ho : ops[i]? = some o) (hw : Region.wanted o (yielded ops a.tmps) = true) (hr : (execOp a.eval o).run P w = .ok (.comm #[rcase c z] true (.recv ok)) w)
    (hc : w.heap[c]? = some (.chan cap buf closed s r tm)) (hsome : 0 < buf.size) (h : wpL P b ops Q rest (a.put o.dst (got ok (buf.getD 0 undef) true)) (w.setChan c cap (buf.extract 1 buf.size) closed s (r + 1) tm)) : wpL P b ops Q (i :: rest) a w := fun k cs => by
  obtain ⟨e, a2, w2, q, r'⟩ := h k cs
  refine ⟨e, a2, w2, q, Arrives.of_steps (Steps.one ?_) r'⟩
  rw [lone_eq_solo, lone_eq_solo, ← finish_here ho]
  exact step_lone_recv_buf ok (stepG_comm ho hw (by rw [hk]; decide) hr) hc hsome
theorem wpL_shut {c cap s r : Nat} {tm : Bool} {z : Value} (ok : Bool) (hk : b.kind = .normal) (ho : ops[i]? = some o) (hw : Region.wanted o (yielded ops a.tmps) = true) (hr : (execOp a.eval o).run P w = .ok (.comm #[rcase c z] true (.recv ok)) w)
    (hc : w.heap[c]? = some (.chan cap #[] true s r tm)) (h : wpL P b ops Q rest (a.put o.dst (got ok z false)) w) : wpL P b ops Q (i :: rest) a w := fun k cs => by
  obtain ⟨e, a2, w2, q, r'⟩ := h k cs
  refine ⟨e, a2, w2, q, Arrives.of_steps (Steps.one ?_) r'⟩
  rw [lone_eq_solo, lone_eq_solo, ← finish_here ho]
  exact step_lone_recv_shut ok (stepG_comm ho hw (by rw [hk]; decide) hr) hc
end
end Go.Proofs.Ytdgefdjgpneanad
