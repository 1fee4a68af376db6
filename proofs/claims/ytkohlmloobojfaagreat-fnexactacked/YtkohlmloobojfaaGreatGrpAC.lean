/- Lemmas on the way, of several texts: Frame, Res, AppOwn2. -/
import Derived.Test.YtkohlmloobojfaaGreatRows
import Derived.WalkKit
import Derived.ProofKit
import Derived.OpenShut
import Derived.Below
import Derived.ChangeReads
import Derived.ChangeOld
import Derived.ChangeArms
import Derived.Laws.Rows
import Derived.Laws.ResultCell
import Derived.Laws.AppendOwn
namespace Go.Proofs.YtkohlmloobojfaaGreat
open Go.ChangeShapes Go.WideShapes Go.ChangeAt Go.RowKit
set_option maxRecDepth 100000
set_option linter.unusedVariables false
/-- The types that a type is made of lie in the table too, and no slice has elements of no size. -/
def partsIn (P : Program) (t : TypeId) : Bool := match P.underlying t with
  | some (.slice e) => decide (e < P.types.size) && decide (0 < P.cellsOf e)
  | some (.pointer e) => decide (e < P.types.size)
  | some (.struct fs) => fs.toList.all fun f => decide (f.type < P.types.size)
  | some (.array _ e) => decide (e < P.types.size)
  | some (.map _ e) => decide (e < P.types.size)
  | _ => true

section
variable {H : Type} {enc : TypeId × Value → H} {P : Program} {w : World} {base : Nat} {sp : Nat → Bool}

theorem step_spare {r r' : TypeId → List Value → Option (DataW H × List MemPlace)} (hr : ∀ t cs x, t < P.types.size → r t cs = some x → (∀ p ∈ x.2, sp p.block = true) → r' t cs = some x)
   {t : TypeId} (hp : partsIn P t = true) {cs : List Value} {x : DataW H × List MemPlace}
   (h : DataW.trodStep enc P w base (fun _ => true) true r t cs = some x) (hs : ∀ p ∈ x.2, sp p.block = true) : DataW.trodStep enc P w base sp true r' t cs = some x := by
 unfold DataW.trodStep at h ⊢
 split at h
 case h_6 e a ht =>
   have hE : e < P.types.size := by simpa [partsIn, ht] using hp
   simp only [Option.map_eq_some_iff, Option.bind_eq_some_iff] at h ⊢
   obtain ⟨y, ⟨ds, hd, hy⟩, rfl⟩ := h
   exact ⟨y, ⟨ds, hd, hr _ _ _ hE hy fun p hp => hs p (List.mem_append.2 (.inr hp))⟩, rfl⟩
 case h_8 e a len cap ht =>
   have hE : e < P.types.size ∧ 0 < P.cellsOf e := by simpa [partsIn, ht] using hp
   simp only at h ⊢
   split at h
   · rename_i hc
     rw [if_pos hc]
     simp only [Option.map_eq_some_iff, Option.bind_eq_some_iff, if_true] at h ⊢
     obtain ⟨elems, he, rest, hrest, rfl⟩ := h
     have one : ∀ y ∈ elems ++ rest, ∀ i : Nat, (w.cells? base (a.add (i * P.cellsOf e)) (P.cellsOf e)).bind (r e) = some y → (w.cells? base (a.add (i * P.cellsOf e)) (P.cellsOf e)).bind (r' e) = some y := by
       intro y hy i hv
       simp only [Option.bind_eq_some_iff] at hv ⊢
       obtain ⟨ds, hd, hy'⟩ := hv
       exact ⟨ds, hd, hr _ _ _ hE.1 hy' fun p hp => hs p (List.mem_append.2 (.inr (List.mem_flatMap.2 ⟨y, hy, hp⟩)))⟩
     refine ⟨elems, mapM_carry he fun i y _ hy => one y (List.mem_append.2 (.inl hy)) i, rest, ?_, rfl⟩
     cases hb : sp a.block with
     | true => rw [if_pos rfl]; exact mapM_carry hrest fun j y _ hy => one y (List.mem_append.2 (.inr hy)) (len + j)
     | false =>
       rw [if_neg (by decide)]
       have h0 : rest = [] := by
         rcases Nat.eq_zero_or_pos (elems.length + rest.length) with h0 | h0
         · exact List.eq_nil_of_length_eq_zero (by omega)
         · have := hs (.cell a.block (a.off + 0)) (List.mem_append.2 (.inl (MemPlace.mem_row.2 ⟨0, Nat.mul_pos h0 hE.2, rfl⟩)))
           simp only [MemPlace.block] at this
           rw [hb] at this
           cases this
       rw [h0]
   · cases h
 case h_9 _ fs ht =>
   have hE : ∀ f ∈ fs.toList, f.type < P.types.size := fun f hf => by
     unfold partsIn at hp
     rw [ht] at hp
     exact of_decide_eq_true (List.all_eq_true.1 hp f hf)
   split at h
   · rename_i hc
     rw [if_pos hc]
     simp only [Option.map_eq_some_iff] at h ⊢
     obtain ⟨xs, hx, rfl⟩ := h
     exact ⟨xs, mapM_carry hx fun f y hf hy hv => hr _ _ _ (hE f hf) hv fun p hp => hs p (List.mem_flatMap.2 ⟨y, hy, hp⟩), rfl⟩
   · cases h
 case h_10 _ n e ht =>
   have hE : e < P.types.size := by simpa [partsIn, ht] using hp
   split at h
   · rename_i hc
     rw [if_pos hc]
     simp only [Option.map_eq_some_iff] at h ⊢
     obtain ⟨xs, hx, rfl⟩ := h
     exact ⟨xs, mapM_carry hx fun f y _ hy hv => hr _ _ _ hE hv fun p hp => hs p (List.mem_flatMap.2 ⟨y, hy, hp⟩), rfl⟩
   · cases h
 case h_12 =>
   split at h
   · exact h
   · rename_i hh _; cases hh
   · rename_i hh _; cases hh
 case h_14 k e b ht =>
   have hE : e < P.types.size := by simpa [partsIn, ht] using hp
   split at h
   · rename_i es clock hb
     split at h
     · rename_i hc
       simp only [Option.bind_eq_some_iff] at h
       obtain ⟨entries, he, hd⟩ := h
       split at hd
       · rename_i hris
         obtain rfl := Option.some.inj hd
         simp only [if_pos hc, Option.bind_eq_some_iff]
         refine ⟨entries, mapM_carry he fun x y _ hy hv => ?_, by simp [hris]⟩
         simp only [Option.bind_eq_some_iff] at hv ⊢
         obtain ⟨key, hk, hz⟩ := hv
         refine ⟨key, hk, ?_⟩
         split at hz
         · rename_i hf
           rw [if_pos hf]
           simp only [Option.map_eq_some_iff] at hz ⊢
           obtain ⟨q, hq, rfl⟩ := hz
           exact ⟨q, hr _ _ _ hE hq fun p hp => hs p (List.mem_cons.2 (.inr (List.mem_flatMap.2 ⟨_, hy, hp⟩))), rfl⟩
         · cases hz
       · cases hd
     · cases h
   · cases h
 all_goals first | exact h | cases h

theorem trod_spare (hpos : ∀ t, t < P.types.size → partsIn P t = true) : ∀ (n : Nat) (t : TypeId) (cs : List Value) (x : DataW H × List MemPlace), t < P.types.size →
    DataW.trod enc P w base (fun _ => true) true n t cs = some x → (∀ p ∈ x.2, sp p.block = true) → DataW.trod enc P w base sp true n t cs = some x := by
  intro n
  induction n with
  | zero => intro t cs x _ h; simp [DataW.trod] at h
  | succ n ih =>
    intro t cs x ht h hs
    rw [DataW.trod_step] at h ⊢
    exact step_spare ih (hpos t ht) h hs

/-- Every argument, whatever its type: read behind a call that wrote nothing that was there. -/
theorem trodAll_after (hpos : ∀ t, t < P.types.size → partsIn P t = true) {W W' : World} (hb : Below W.heap.size W W') : ∀ {ts : List TypeId} {vs : List Value} {ds : List (DataW H)} {p : List MemPlace}, (∀ t ∈ ts, t < P.types.size) →
    DataW.TrodAll enc P W base (fun _ => true) true ts vs ds p → (∀ q ∈ p, q.block < W.heap.size) → DataW.TrodAll enc P W' base (fun b => decide (b < W.heap.size)) true ts vs ds p
  | [], vs, ds, p, _, h, _ => by
    obtain ⟨rfl, rfl, rfl⟩ := trodAll_nil h
    exact trodAll_mk0
  | t :: ts, vs, ds, p, hts, h, hlt => by
    obtain ⟨v, vs1, d, ds1, a, b, rfl, rfl, rfl, ⟨n, h1⟩, h2⟩ := trodAll_cons h
    have l1 : ∀ q ∈ a, q.block < W.heap.size := fun q hq => hlt q (List.mem_append.2 (.inl hq))
    refine trodAll_cons_mk ⟨n, trod_spare hpos n t _ _ (hts t (List.mem_cons_self ..)) (DataW.trod_carry n t _ _ h1 fun q hq => hb.same (l1 q hq)) fun q hq => decide_eq_true (l1 q hq)⟩ (trodAll_after hpos hb (fun u hu => hts u (List.mem_cons_of_mem _ hu)) h2 fun q hq => hlt q (List.mem_append.2 (.inr hq)))

end

theorem table_ok : ∀ t, t < Tryz.prog.types.size → partsIn Tryz.prog t = true := by
 have h : (List.range Tryz.prog.types.size).all (partsIn Tryz.prog) = true := by kernel_rfl
 exact fun t ht => List.all_eq_true.1 h t (List.mem_range.2 ht)
/-- An operation that was passed over yields no test: a walk of a guarded region needs it. -/
theorem yielded_none : yielded.match_1 (fun _ => Option Bool) (some undef) (fun b => some b) (fun _ => none) = none := rfl
attribute [go_sem] yielded_none
section
variable {P : Program}
theorem loadVar_cells (w : World) (b off : Nat) (ty : TypeId) (cs : List Value) {d : TypeDesc} (hc : ∀ j v, cs[j]? = some v → w.cell? ⟨b, off + j, none⟩ = some v)
   (hu : P.underlying ty = some d) (hd : (match d with | .struct _ | .array _ _ => true | _ => false) = true) (hi : (P.info? ty).map (·.size) = some cs.length) :
   (loadVar ty ⟨b, off, none⟩).run P w = .ok (.agg cs.toArray) w := by
 have hl : (loadCells ⟨b, off, none⟩ cs.length).run P w = .ok cs.toArray w :=
   run_loadCells_list (P := P) w ⟨b, off, none⟩ cs (fun j v hv => by
     have hadd : (⟨b, off, none⟩ : Addr).add j = ⟨b, off + j, none⟩ := by unfold Addr.add; split <;> simp_all
     rw [hadd]
     exact hc j v hv)
 cases hq : P.info? ty with
 | none => simp [hq] at hi
 | some i =>
   have hs : i.size = cs.length := by simpa [hq] using hi
   have hagg : (isAgg ty).run P w = .ok true w := by
     unfold isAgg
     rw [Sem.run_bind, run_underlying hu w]
     cases d <;> simp_all
   simp [loadVar, Sem.run_bind, hagg, sizeOf, typeInfo, hq, hs, hl]
theorem results_one {fn : Func} {p : Tmp} {ty : TypeId} (h : fn.results = #[.cell p ty]) (tmps : Array Value) (w : World) (g : Nat) (cs : List Value) {d : TypeDesc}
    (hp : tmps.getD p undef = .pointer (some ⟨g, 0, none⟩)) (hc : ∀ j v, cs[j]? = some v → w.cell? ⟨g, j, none⟩ = some v)
    (hu : P.underlying ty = some d) (hd : (match d with | .struct _ | .array _ _ => true | _ => false) = true) (hi : (P.info? ty).map (·.size) = some cs.length) :
    (results fn tmps).run P w = .ok (.agg cs.toArray) w := by
  have hp' : tmps[p]?.getD undef = .pointer (some ⟨g, 0, none⟩) := by simpa using hp
  have hl := loadVar_cells (P := P) w g 0 ty cs (fun j v hv => by rw [Nat.zero_add]; exact hc j v hv) hu hd hi
  simp [results, h, hp', asAddr, hl]
theorem results_two {fn : Func} {p u : Tmp} {ty : TypeId} (h : fn.results = #[.cell p ty, .tmp u]) (tmps : Array Value) (w : World) (g : Nat) (cs : List Value) {d : TypeDesc}
    (hp : tmps.getD p undef = .pointer (some ⟨g, 0, none⟩)) (hc : ∀ j v, cs[j]? = some v → w.cell? ⟨g, j, none⟩ = some v)
    (hu : P.underlying ty = some d) (hd : (match d with | .struct _ | .array _ _ => true | _ => false) = true) (hi : (P.info? ty).map (·.size) = some cs.length) :
    (results fn tmps).run P w = .ok (.tuple #[.agg cs.toArray, tmps.getD u undef]) w := by
  have hp' : tmps[p]?.getD undef = .pointer (some ⟨g, 0, none⟩) := by simpa using hp
  have hl := loadVar_cells (P := P) w g 0 ty cs (fun j v hv => by rw [Nat.zero_add]; exact hc j v hv) hu hd hi
  rw [results_cell_tmp h]
  simp [hp', asAddr, hl, Result.andThen]
end
section
variable {P : Program} (w : World)
theorem run_append_two (base : Nat) (t ty e : TypeId) (i : TypeInfo) (z : Value) (size bytes : Nat) (ht : P.underlying t = some (.slice e)) (hi : P.info? e = some i) (hz : i.zero = some z)
   (hsize : i.size = size) (hby : i.bytes = bytes) (hzs : z.cells.size = size) (hsz : 0 < size)
   (v : Value) (n : Nat) (xs : List Value) (hown : w.ownsRow base e size v n xs)
   (a : Addr) (m c : Nat) (news : List Value) (hl : news.length = m * size) (hnews : ∀ j u, news[j]? = some u → w.cell? (a.add j) = some u) (h1 : ∀ u ∈ news, u.oneCell' = true)
   (h63 : n + m ≤ maxLen) (hbytes : (n + m) * bytes ≤ 140737488355328) (hbase : base ≤ w.heap.size) (hm : 0 < m) :
   ∃ v' w', (Builtin.append_ #[t, t] ty #[v, .slice (some a) m c]).run P w = .ok v' w' ∧ w'.ownsRow base e size v' (n + m) (xs ++ news) ∧ w.grownBy w' v.ownBlock ∧
     (v'.ownBlock = v.ownBlock ∨ v'.ownBlock = some w.heap.size) := by
 obtain ⟨v', w', hr, h2, h3, _⟩ := run_append_own (P := P) w base t ty e i z size bytes ht hi hz hsize hby hzs hsz v n xs hown a m c news hl hnews h1 h63 hbytes hbase
 refine ⟨v', w', hr, h2, h3, ?_⟩
 subst hsize
 subst hby
 have hsmall : n + m ≤ 9223372036854775807 := by simp only [maxLen] at h63; omega
 rcases hown.2 with ⟨rfl, rfl⟩ | ⟨g, cap, cur, rfl, hbg, hg, hnc, hcm, hcs, htake⟩
 · have hx : xs = [] := List.eq_nil_of_length_eq_zero (by simpa using hown.1)
   subst hx
   have hr2 := run_append_nil (P := P) w t ty e i z ht hi hz a m c news hl hnews (by omega) (by omega) (by have hb := hbytes; simp only [Nat.zero_add] at hb; omega)
   rw [hr] at hr2
   injection hr2 with hr2 _
   exact .inr (by rw [hr2]; rfl)
 · by_cases hroom : n + m ≤ cap
   · have hfit : n * i.size + news.length ≤ cur.size := by rw [hl, hcs, ← Nat.add_mul]; exact Nat.mul_le_mul_right _ hroom
     have hr2 := run_append_room (P := P) w t ty e i ht hi g n cap cur hg a m c news hl hnews h1 hroom hfit
     rw [hr] at hr2
     injection hr2 with hr2 _
     exact .inl (by rw [hr2]; rfl)
   · have holds : ∀ j u, xs[j]? = some u → w.cell? ((⟨g, 0, none⟩ : Addr).add j) = some u := hown.cells (g := g) rfl
     have hr2 := run_append_grow (P := P) w t ty e i z ht hi hz ⟨g, 0, none⟩ n cap xs hown.1 holds a m c news hl hnews (by omega) (by omega) (growslice_fits (by omega) hbytes)
     rw [hr] at hr2
     injection hr2 with hr2 _
     exact .inr (by rw [hr2]; rfl)
theorem wp_append_two {o : Oper} {a : Act} {K : Act → World → Prop} {Q : Exit → Act → World → Prop} (s x : Operand) (t : TypeId)
   (ho : o.op = .call { callee := .builtin .append, args := #[s, x], argTypes := #[t, t] })
   (base : Nat) (e : TypeId) (i : TypeInfo) (z : Value) (size bytes : Nat) (ht : P.underlying t = some (.slice e)) (hi : P.info? e = some i) (hz : i.zero = some z)
   (hsize : i.size = size) (hby : i.bytes = bytes) (hzs : z.cells.size = size) (hsz : 0 < size)
   (v : Value) (n : Nat) (xs : List Value) (hs : a.eval s = v) (hown : w.ownsRow base e size v n xs)
   (ad : Addr) (m c : Nat) (news : List Value) (hx : a.eval x = .slice (some ad) m c) (hl : news.length = m * size) (hnews : ∀ j u, news[j]? = some u → w.cell? (ad.add j) = some u) (h1 : ∀ u ∈ news, u.oneCell' = true)
   (h63 : n + m ≤ maxLen) (hbytes : (n + m) * bytes ≤ 140737488355328) (hbase : base ≤ w.heap.size) (hm : 0 < m)
   (h : ∀ v' w', w'.ownsRow base e size v' (n + m) (xs ++ news) → w.grownBy w' v.ownBlock → (v'.ownBlock = v.ownBlock ∨ v'.ownBlock = some w.heap.size) → K (a.put o.dst v') w') : o.wp P a w K Q := by
 obtain ⟨v', w', hr, h2, h3, h4⟩ := run_append_two (P := P) w base t o.type e i z size bytes ht hi hz hsize hby hzs hsz v n xs hown ad m c news hl hnews h1 h63 hbytes hbase hm
 unfold Oper.wp execOp
 simp only [ho, resolve, invoke, builtin, Sem.run_bind, Sem.run_pure, Result.andThen_ok, List.map_toArray, List.map_cons, List.map_nil, hs, hx, hr]
 exact h v' w' h2 h3 h4
end
end Go.Proofs.YtkohlmloobojfaaGreat
