/- Lemmas on the way, of several texts: E17, DrawId14, DrawSw14. -/
import Derived.Test.YthiojkjcmhojoaaGreatGrpBN
import Derived.Test.YthiojkjcmhojoaaGreatGrpAE
namespace Go.Proofs.YthiojkjcmhojoaaGreat
open Go.ChangeShapes Go.WideShapes Go.ChangeAt Go.RowKit
set_option maxRecDepth 100000
set_option linter.unusedVariables false
set_option linter.unusedSimpArgs false
/-- An outer draw: the result's block, behind it the cursor b, behind it the variable q with the Engine that was drawn; all of it made since w. -/
structure E17 (B : Nat) (a0 : Option Addr) (len cap b : Nat) (w wr : World) (q : Nat) (E : EgR) : Prop where
 cur : Cur B a0 len cap b wr
 bel : Below w.heap.size w wr
 rb : w.heap.size < b
 bq : b < q
 res : Lay wr w.heap.size [.int .i64 0, .slice none 0 0, .slice none 0 0, .slice none 0 0, .slice none 0 0, .slice none 0 0, .int .i64 0]
 var : Lay wr q [.int .i64 E.now, .slice E.aT E.T.length E.cT, .slice E.aO E.O.length E.cO, .slice E.aP E.P.length E.cP, .slice E.aL E.L.length E.cL, .slice E.aK E.K.length E.cK, .int .i64 E.nx]
 own : ∃ lo, E.ownQ wr lo q ∧ b < lo
 sm : Small E.T E.O E.P E.L E.K
 hk : E.K ≠ []
section
variable {B : Nat} {a0 : Option Addr} {len cap b : Nat} {w wr : World} {q : Nat} {E : EgR}
theorem E17.draw (d : E17 B a0 len cap b w wr q E) {w2 : World} (o : Only b wr w2) (k : Cur B a0 len cap b w2) : E17 B a0 len cap b w w2 q E := by
 have h1 := d.rb
 have h2 := d.bq
 obtain ⟨lo, e, h3⟩ := d.own
 exact ⟨k, d.bel.trans (o.below (by omega) (by have := d.bel.size; omega)), d.rb, d.bq, d.res.only o (by omega), d.var.only o (by omega), ⟨lo, e.only o (.inl h3), h3⟩, d.sm, d.hk⟩
theorem E17.next (d : E17 B a0 len cap b w wr q E) {w2 : World} (h : Below wr.heap.size wr w2) : E17 B a0 len cap b w w2 q E := d.draw (Only.of_below h) (d.cur.mono h)
/-- The result is stored. -/
theorem E17.fin {u : World} (d : E17 B a0 len cap b w wr q E) (o : Only w.heap.size wr u) : E.own u w.heap.size u.heap.size ∧ Below w.heap.size w u := by
 have h1 := d.rb
 have h2 := d.bq
 obtain ⟨lo, eo, h3⟩ := d.own
 exact ⟨(eo.own.only o (.inl (by omega))).wider (by omega) o.size, d.bel.trans (o.below (Nat.le_refl _) d.bel.size)⟩
/-- Blocks beyond the cursor's have turned. -/
theorem E17.turnP {p : Nat → Prop} {u : World} (d : E17 B a0 len cap b w wr q E) (E' : EgR) (o : OnlyP p wr u) (hp : ∀ g, p g → b < g) (v : Lay u q [.int .i64 E'.now, .slice E'.aT E'.T.length E'.cT, .slice E'.aO E'.O.length E'.cO, .slice E'.aP E'.P.length E'.cP, .slice E'.aL E'.L.length E'.cL, .slice E'.aK E'.K.length E'.cK, .int .i64 E'.nx]) (own : ∃ lo, E'.ownQ u lo q ∧ b < lo) (sm : Small E'.T E'.O E'.P E'.L E'.K) (hk : E'.K ≠ []) : E17 B a0 len cap b w u q E' := by
 have h1 := d.rb
 have h2 := d.bq
 have h3 := d.var.lt
 have h4 := d.bel.size
 have hb : Below (b + 1) wr u := ⟨o.os, o.tape, o.output, o.size, fun k hk => o.block k (by omega) (fun e => by have := hp k e; omega)⟩
 exact ⟨d.cur.under hb (by omega), d.bel.trans (hb.mono (by omega)), h1, h2, d.res.block o.size (o.block _ (by omega) (fun e => by have := hp _ e; omega)), v, own, sm, hk⟩
theorem E17.rd (d : E17 B a0 len cap b w wr q E) : E.Rd wr := by
 obtain ⟨lo, e, _⟩ := d.own
 exact e.own.rd
theorem E17.sizes {gk i : Nat} {v : Value} (d : E17 B a0 len cap b w wr q E) (ha : E.aK = some ⟨gk, 0, none⟩) (hi1 : i < E.K.length) (hv : wr.cell? ⟨gk, i * 14 + 13, none⟩ = some v) : (E.K[i].xs = [] ∧ ∃ a, v = .slice a 0 0) ∨ (E.K[i].xs ≠ [] ∧ wr.ownsRow 0 2 1 v E.K[i].xs.length (flatI E.K[i].xs)) := by
 obtain ⟨lo, e, _⟩ := d.own
 rcases e.sizes ha hi1 hv with r | ⟨r1, r2⟩
 · exact .inl r
 · exact .inr ⟨r1, row_lowE r2 (Nat.zero_le _)⟩
theorem E17.at {gk i : Nat} (d : E17 B a0 len cap b w wr q E) (ha : E.aK = some ⟨gk, 0, none⟩) (hi1 : i < E.K.length) : wr.cell? ⟨gk, i * 14, none⟩ = some (.int .i64 E.K[i].id) ∧ (∃ sa sc, wr.cell? ⟨gk, i * 14 + 13, none⟩ = some (.slice sa E.K[i].xs.length sc)) ∧ wr.frozen? ⟨gk, i * 14 + 13, none⟩ = false ∧ (b < gk ∧ gk < wr.heap.size ∧ gk ≠ q) := by
 obtain ⟨lo, ⟨hi', uL, uK, ex, hn⟩, hlo⟩ := d.own
 obtain ⟨gk', ha', g0, g1, g2⟩ := ex.atK (by omega)
 have hgk : gk' = gk := by rw [ha] at ha'; injection ha' with e1; injection e1 with e2; exact e2.symm
 subst hgk
 rw [ha] at ex hn g2
 obtain ⟨_, ko, _⟩ := ex.ko (by omega)
 obtain ⟨sa, sc, c13, _⟩ := ex.con13 hi1
 exact ⟨(ex.con hi1).1, ⟨sa, sc, c13⟩, (ko.any _ (by omega)).2, by omega, g1, fun e => hn (by rw [← e]; exact g2)⟩
theorem E17.first (d : E17 B a0 len cap b w wr q E) : ∃ gk, E.aK = some ⟨gk, 0, none⟩ := by
 have hk : 1 ≤ E.K.length := List.length_pos_iff.2 d.hk
 obtain ⟨lo, ⟨hi', uL, uK, ex, hn⟩, hlo⟩ := d.own
 obtain ⟨gk', ha', _⟩ := ex.atK (by omega)
 exact ⟨gk', ha'⟩
/-- One number more behind a connection's sizes. -/
theorem E17.app {gk i : Nat} {v v' : Value} {w1 : World} {y : Int} (d : E17 B a0 len cap b w wr q E) (ha : E.aK = some ⟨gk, 0, none⟩) (hi1 : i < E.K.length) (hv : wr.cell? ⟨gk, i * 14 + 13, none⟩ = some v) (own : w1.ownsRow 0 2 1 v' (E.K[i].xs.length + 1) (flatI E.K[i].xs ++ [.int .i64 y])) (o1 : OnlyP (fun b => elB v = some b) wr w1) (hw : ∀ b, elB v' = some b → elB v = some b ∨ wr.heap.size ≤ b) (hxl : E.K[i].xs.length + 1 ≤ 1000) :
   E17 B a0 len cap b w (w1.setCell ⟨gk, i * 14 + 13, none⟩ v') q { E with K := E.K.set i (E.K[i].more y) } ∧ w1.cell? ⟨gk, i * 14 + 13, none⟩ = some v ∧ w1.frozen? ⟨gk, i * 14 + 13, none⟩ = false := by
 obtain ⟨_, _, hfz, g0, g1, g2⟩ := d.at ha hi1
 obtain ⟨lo, e, h3⟩ := d.own
 obtain ⟨e1, o2, o3⟩ := e.app d.var.lt ha hi1 hv own o1 hw
 have hbk := o3.block gk g1 (fun e => e.2.2 rfl)
 refine ⟨?_, (World.cell?_of_block hbk).trans hv, (World.frozen?_of_block hbk).trans hfz⟩
 refine d.turnP { E with K := E.K.set i (E.K[i].more y) } o2 (fun g e => by omega) ?_ ⟨lo, e1, h3⟩ (d.sm.setK (by show (E.K[i].xs ++ [y]).length ≤ 1000; rw [List.length_append]; exact hxl)) (set_ne d.hk)
 have v := d.var.block o2.size (o2.block _ d.var.lt (fun e => e.2 rfl))
 show Lay _ q [.int .i64 E.now, .slice E.aT E.T.length E.cT, .slice E.aO E.O.length E.cO, .slice E.aP E.P.length E.cP, .slice E.aL E.L.length E.cL, .slice E.aK (E.K.set i (E.K[i].more y)).length E.cK, .int .i64 E.nx]
 rw [List.length_set]
 exact v
theorem e17_new {w1 w2 : World} {t : TypeId} {q : Nat} (hq : w2.heap.size = q) (b1 : Below w.heap.size w w1) (l1 : Lay w1 w.heap.size [.int .i64 0, .slice none 0 0, .slice none 0 0, .slice none 0 0, .slice none 0 0, .slice none 0 0, .int .i64 0]) (rb : w.heap.size < b) (bz : b < w1.heap.size) (k2 : Cur B a0 len cap b w2) (o2 : Only b w1 w2) (eo : E.own w2 w1.heap.size w2.heap.size) (sm : Small E.T E.O E.P E.L E.K) (hk : E.K ≠ []) : E17 B a0 len cap b w (w2.alloc (.cells #[.int .i64 E.now, .slice E.aT E.T.length E.cT, .slice E.aO E.O.length E.cO, .slice E.aP E.P.length E.cP, .slice E.aL E.L.length E.cL, .slice E.aK E.K.length E.cK, .int .i64 E.nx] t)) q E := by
 have hb := new_below w2 (.cells #[.int .i64 E.now, .slice E.aT E.T.length E.cT, .slice E.aO E.O.length E.cO, .slice E.aP E.P.length E.cP, .slice E.aL E.L.length E.cL, .slice E.aK E.K.length E.cK, .int .i64 E.nx] t)
 have z := o2.size
 have z1 := b1.size
 have zb := hb.size
 exact ⟨k2.mono hb, (b1.trans (o2.below (by omega) (by omega))).trans (hb.mono (by omega)), rb, by omega, (l1.only o2 (by omega)).next hb, lay_new [.int .i64 E.now, .slice E.aT E.T.length E.cT, .slice E.aO E.O.length E.cO, .slice E.aP E.P.length E.cP, .slice E.aL E.L.length E.cL, .slice E.aK E.K.length E.cK, .int .i64 E.nx] t hq.symm, ⟨w1.heap.size, (eo.next hb).toQ (.inr (by omega)), bz⟩, sm, hk⟩
end
def DE2 (w : World) (e : Ending) (w' : World) : Prop := ∃ (E : EgR) (x y : Int), e = .returned (.tuple #[engV E.now E.aT E.T.length E.cT E.aO E.O.length E.cO E.aP E.P.length E.cP E.aL E.L.length E.cL E.aK E.K.length E.cK E.nx, .int .i64 x, .int .i64 y]) ∧ E.own w' w.heap.size w'.heap.size ∧ Small E.T E.O E.P E.L E.K ∧ E.K ≠ [] ∧ Below w.heap.size w w'
set_option maxHeartbeats 8000000 in
theorem l14DrawId_acc {B : Nat} {a0 : Option Addr} {len cap b : Nat} {w : World} (k : Cur B a0 len cap b w) (E : EgR) {lo hi : Nat} (eo : E.own w lo hi) (hlo : b < lo) (hk : E.K ≠ []) (sm : Small E.T E.O E.P E.L E.K) : Calls Tryz.prog 37 #[.pointer (some ⟨b, 0, none⟩), engV E.now E.aT E.T.length E.cT E.aO E.O.length E.cO E.aP E.P.length E.cP E.aL E.L.length E.cL E.aK E.K.length E.cK E.nx] w fun e w' => ∃ x : Int, e = .returned (.int .i64 x) ∧ Cur B a0 len cap b w' ∧ Only b w w' := by
 have hk0 : 1 ≤ E.K.length := List.length_pos_iff.2 hk
 have hk1 : E.K.length ≤ 100 := sm.k
 have hk2 : (0 : Int) < (E.K.length : Int) := by omega
 have hbz := k.hi
 obtain ⟨gk, ha, hgk, hcs⟩ : ∃ gk, E.aK = some ⟨gk, 0, none⟩ ∧ (gk < w.heap.size ∧ gk ≠ b) ∧ ∀ i (h : i < E.K.length), w.cell? ⟨gk, i * 14, none⟩ = some (.int .i64 E.K[i].id) := by
   obtain ⟨lo', hi', uL, uK, h3, h4, ex⟩ := eo
   obtain ⟨gk, ha, g0, g1, g2⟩ := ex.atK (by omega)
   rw [ha] at ex
   exact ⟨gk, ha, ⟨g1, by omega⟩, fun i h => (ex.con h).1⟩
 have HC : Hid (∀ i (h : i < E.K.length), w.cell? ⟨gk, i * 14, none⟩ = some (.int .i64 E.K[i].id)) := hcs
 obtain ⟨v, hv⟩ : ∃ v, v = w.alloc (.cells #[.int .i64 E.now, .slice E.aT E.T.length E.cT, .slice E.aO E.O.length E.cO, .slice E.aP E.P.length E.cP, .slice E.aL E.L.length E.cL, .slice E.aK E.K.length E.cK, .int .i64 E.nx] 31) := ⟨_, rfl⟩
 have nb : Below w.heap.size w v := by rw [hv]; exact new_below _ _
 have lv : Lay v w.heap.size [.int .i64 E.now, .slice E.aT E.T.length E.cT, .slice E.aO E.O.length E.cO, .slice E.aP E.P.length E.cP, .slice E.aL E.L.length E.cL, .slice E.aK E.K.length E.cK, .int .i64 E.nx] := by rw [hv]; exact lay_new [.int .i64 E.now, .slice E.aT E.T.length E.cT, .slice E.aO E.O.length E.cO, .slice E.aP E.P.length E.cP, .slice E.aL E.L.length E.cL, .slice E.aK E.K.length E.cK, .int .i64 E.nx] _ rfl
 have CU : Hid (Cur B a0 len cap b v) := k.mono nb
 have OB : Hid (Only b v v) := Only.refl _ _
 have c5 : v.cell? ⟨w.heap.size, 5, none⟩ = some (.slice (some ⟨gk, 0, none⟩) E.K.length E.cK) := by
   have c := lv.cell 5 _ rfl
   rw [ha] at c
   exact c
 have HS : Hid (∀ u, Only b v u → (fun w' => w'.cell? ⟨w.heap.size, 5, none⟩ = some (.slice (some ⟨gk, 0, none⟩) E.K.length E.cK) ∧ ∀ j : Nat, w'.cell? ⟨gk, j, none⟩ = w.cell? ⟨gk, j, none⟩) u) := fun u o => ⟨(o.cell (p := ⟨w.heap.size, 5, none⟩) lv.lt (by show w.heap.size ≠ b; omega)).trans c5, fun j => (o.cell (p := ⟨gk, j, none⟩) (by have := lv.lt; show gk < _; omega) (by show gk ≠ b; omega)).trans (nb.cell (p := ⟨gk, j, none⟩) (by show gk < _; omega))⟩
 have HA : Hid (E.aK = some ⟨gk, 0, none⟩) := ha
 clear hcs ha hk eo
 have HN : Hid (Below w.heap.size w v) := nb
 go_enter Tryz.func37, Tryz.ntmps37
 go_upto_region 1 with (fail)
 rw [← hv]
 clear hv
 go_upto_if 13 with (first
   | (go_at_call 36; refine (once_acc _ CU.out (Only.refl _ _) (by omega) (by omega)).mono ?_; rintro e w4 ⟨f4, rfl, k4, o4⟩; have CU : Hid (Cur B a0 len cap b w4) := k4; have OB : Hid (Only b v w4) := o4))
 clear c5
 cases f4
 · go_upto_region 2 with (fail)
   have CU : Hid (Cur B a0 len cap b w4.drew) := CU.out.mono (Below.refl _ _).drew
   have OB : Hid (Only b v w4.drew) := OB.out.trans (Only.of_below (Below.refl _ _).drew)
   refine wp_region_held_drew (S := fun w' => w'.cell? ⟨w.heap.size, 5, none⟩ = some (.slice (some ⟨gk, 0, none⟩) E.K.length E.cK) ∧ ∀ j : Nat, w'.cell? ⟨gk, j, none⟩ = w.cell? ⟨gk, j, none⟩) (by kernel_rfl) (HS.out _ OB.out) (fun hS => ?_)
   refine anyR 0 rfl ?_
   refine anyR 1 rfl ?_
   refine anyR 2 rfl ?_
   refine anyR 3 rfl ?_
   refine anyR 4 rfl ?_
   refine anyR 5 rfl ?_
   refine anyC 6 rfl fun Kr hKr => ?_
   go_simp
   (refine (below_acc (E.K.length : Int) CU.out (Only.refl _ _) (by omega) (by omega)).mono ?_; rintro e u1 ⟨m1, rfl, hm1, kk, oo⟩; have CU : Hid (Cur B a0 len cap b u1) := kk; have OB : Hid (Only b v u1) := OB.out.trans oo; have hS := HS.out _ OB.out; obtain ⟨i, hie⟩ : ∃ i : Nat, m1 = (i : Int) := ⟨m1.toNat, by omega⟩; subst hie; have hi2 : i < E.K.length := (by omega); have hi0 : (0 : Int) ≤ (i : Int) := (by omega); have hi3 : (i : Int) < (E.K.length : Int) := (by omega); have c0 := HC.out i hi2)
   refine hKr.out _ _ ‹_› fun _ => ?_
   try simp only [nrm]
   refine anyR 7 rfl ?_
   refine anyR 8 rfl ?_
   refine anyV 9 (v := .int .i64 E.K[i].id) rfl ?_ ?_
   · (intro w' hSw; (try dsimp only at hSw); (have d0 := (hSw.2 _).trans c0; go_simp))
   try simp only [nrm]
   refine anyR 10 rfl ?_
   refine wpAnyH_done (by kernel_rfl) ?_ _
   go_wp2
   go_ret
   exact ⟨_, rfl, CU.out, (Only.of_below HN.out).trans OB.out⟩
 · have zo := OB.out.size
   have hzv := lv.lt
   have DN : Hid (Cur B a0 len cap b (w4.alloc (.cells #[.int .i64 (-1), .int .i64 (3), .int .i64 (20), .int .i64 (1000000), .int .i64 (1000001)] 2))) := CU.out.mono (new_below _ _)
   go_wp2_with (first | (go_at_call 35; refine (below_acc _ DN.out (Only.refl _ _) (by omega) (by omega)).mono ?_; rintro e u4 ⟨x5, rfl, hx5, k5, o5⟩; have C5 : Hid (Cur B a0 len cap b u4) := k5; have O5 : Hid (Only b (w4.alloc (.cells #[.int .i64 (-1), .int .i64 (3), .int .i64 (20), .int .i64 (1000000), .int .i64 (1000001)] 2)) u4) := o5; have t0 : u4.cell? ⟨w4.heap.size, 0, none⟩ = some (.int .i64 (-1)) := (o5.cell (p := ⟨w4.heap.size, 0, none⟩) (by simp) (by show w4.heap.size ≠ b; omega)).trans (by go_simp); have t1 : u4.cell? ⟨w4.heap.size, 1, none⟩ = some (.int .i64 (3)) := (o5.cell (p := ⟨w4.heap.size, 1, none⟩) (by simp) (by show w4.heap.size ≠ b; omega)).trans (by go_simp); have t2 : u4.cell? ⟨w4.heap.size, 2, none⟩ = some (.int .i64 (20)) := (o5.cell (p := ⟨w4.heap.size, 2, none⟩) (by simp) (by show w4.heap.size ≠ b; omega)).trans (by go_simp); have t3 : u4.cell? ⟨w4.heap.size, 3, none⟩ = some (.int .i64 (1000000)) := (o5.cell (p := ⟨w4.heap.size, 3, none⟩) (by simp) (by show w4.heap.size ≠ b; omega)).trans (by go_simp); have t4 : u4.cell? ⟨w4.heap.size, 4, none⟩ = some (.int .i64 (1000001)) := (o5.cell (p := ⟨w4.heap.size, 4, none⟩) (by simp) (by show w4.heap.size ≠ b; omega)).trans (by go_simp); have hx5' : x5 = 0 ∨ x5 = 1 ∨ x5 = 2 ∨ x5 = 3 ∨ x5 = 4 := (by omega); clear hx5 k5 o5; rcases hx5' with rfl | rfl | rfl | rfl | rfl))
   all_goals (go_ret; exact ⟨_, rfl, C5.out, ((Only.of_below HN.out).trans OB.out).trans ((Only.of_below (new_below _ _)).trans O5.out)⟩)
set_option maxHeartbeats 8000000 in
theorem drawSwitch_any {B : Nat} {a0 : Option Addr} {len : Nat} (cap : Nat) {w : World} (hs : len ≤ 4096) (row : Row B a0 len w) (hB : B ≤ w.heap.size) :
   Calls Tryz.prog 26 #[.slice a0 len cap] w (DE2 w) := by
 obtain ⟨v, hv⟩ : ∃ v, v = w.alloc (.cells #[.int .i64 0, .slice none 0 0, .slice none 0 0, .slice none 0 0, .slice none 0 0, .slice none 0 0, .int .i64 0] 31) := ⟨_, rfl⟩
 have nb : Below w.heap.size w v := by rw [hv]; exact new_below _ _
 have lv : Lay v w.heap.size [.int .i64 0, .slice none 0 0, .slice none 0 0, .slice none 0 0, .slice none 0 0, .slice none 0 0, .int .i64 0] := by rw [hv]; exact lay_new [.int .i64 0, .slice none 0 0, .slice none 0 0, .slice none 0 0, .slice none 0 0, .slice none 0 0, .int .i64 0] _ rfl
 have zv := lv.lt
 have bx : Below B w v := nb.mono hB
 go_enter Tryz.func26, Tryz.ntmps26
 go_upto_region 1 with (fail)
 rw [← hv]
 clear hv
 go_upto_region 3 with (first | (go_at_call 33; refine (new_any cap hs (row.mono bx) (by omega)).mono ?_; rintro e w1 ⟨b, rfl, hb, k1, hb1⟩; have l1 := lv.next hb1; have bw1 := below_two nb hb1; have hbz := k1.hi) | (go_at_call 34; refine (l14DrawAny_acc k1).mono ?_; rintro e w2 ⟨E, rfl, eo, sm, hkn, k2, o2⟩))
 obtain ⟨q, hq⟩ : ∃ q, w2.heap.size = q := ⟨_, rfl⟩
 obtain ⟨x, hx⟩ : ∃ x, w2.alloc (.cells #[.int .i64 E.now, .slice E.aT E.T.length E.cT, .slice E.aO E.O.length E.cO, .slice E.aP E.P.length E.cP, .slice E.aL E.L.length E.cL, .slice E.aK E.K.length E.cK, .int .i64 E.nx] 31) = x := ⟨_, rfl⟩
 have D : Hid (E17 B a0 len cap b w x q E) := by
   show E17 B a0 len cap b w x q E
   rw [← hx]
   exact e17_new hq bw1 l1 (by omega) hbz k2 o2 eo sm hkn
 rw [hx, hq]
 clear hx hq eo sm hkn k2 o2 l1 k1
 obtain ⟨t0, t1, t2, t3, t4, t5, t6⟩ := D.out.var.c7
 go_upto_if 20 with (first | (go_at_call 37; obtain ⟨lo', eq', hlo'⟩ := D.out.own; have eo' := eq'.own; refine (l14DrawId_acc D.out.cur E eo' hlo' D.out.hk D.out.sm).mono ?_; rintro e u1 ⟨m1, rfl, kk, oo⟩; have DI : Hid (E17 B a0 len cap b w u1 q E) := D.out.draw oo kk; clear eq' eo' hlo' kk oo; clear t0 t1 t2 t3 t4 t5 t6; obtain ⟨t0, t1, t2, t3, t4, t5, t6⟩ := DI.out.var.c7) | (go_at_call 35; refine (below_acc _ DI.out.cur (Only.refl _ _) (by omega) (by omega)).mono ?_; rintro e u2 ⟨m2, rfl, hm2, kk, oo⟩; have DB : Hid (E17 B a0 len cap b w u2 q E) := DI.out.draw oo kk; have wm2 : IntKind.i64.wrap (1 + m2) = 1 + m2 := (by rw [IntKind.wrap_i64]; omega); clear kk oo; clear t0 t1 t2 t3 t4 t5 t6; obtain ⟨t0, t1, t2, t3, t4, t5, t6⟩ := DB.out.var.c7) | (go_at_call 36; refine (once_acc _ DB.out.cur (Only.refl _ _) (by omega) (by omega)).mono ?_; rintro e u3 ⟨f3, rfl, kk, oo⟩; have DO : Hid (E17 B a0 len cap b w u3 q E) := DB.out.draw oo kk; clear kk oo; clear t0 t1 t2 t3 t4 t5 t6; obtain ⟨t0, t1, t2, t3, t4, t5, t6⟩ := DO.out.var.c7))
 cases f3
 · obtain ⟨z0, z1, z2, z3, z4, z5, z6⟩ := DO.out.res.c7; have zf := DO.out.res.free
   go_wp2
   obtain ⟨u, hu', ou, U⟩ := st7 (b := w.heap.size) DO.out.res (.int .i64 E.now) (.slice E.aT E.T.length E.cT) (.slice E.aO E.O.length E.cO) (.slice E.aP E.P.length E.cP) (.slice E.aL E.L.length E.cL) (.slice E.aK E.K.length E.cK) (.int .i64 E.nx)
   rw [hu']
   clear hu'
   obtain ⟨fo, fb⟩ := DO.out.fin ou
   refine bodyPost_ret (results_threeE rfl _ _ _ [.int .i64 E.now, .slice E.aT E.T.length E.cT, .slice E.aO E.O.length E.cO, .slice E.aP E.P.length E.cP, .slice E.aL E.L.length E.cL, .slice E.aK E.K.length E.cK, .int .i64 E.nx] rfl U.cell Tryz.underlying31 rfl (by kernel_rfl)) rfl ?_
   exact ⟨E, _, _, rfl, fo, DO.out.sm, DO.out.hk, fb⟩
 · go_wp2_with (first | (go_at_call 38; refine (from_acc _ _ DO.out.cur (Only.refl _ _) (by decide) (by decide) (by decide)).mono ?_; rintro e u4 ⟨m4, rfl, hm4, kk, oo⟩; have DF : Hid (E17 B a0 len cap b w u4 q E) := DO.out.draw oo kk; clear kk oo; clear t0 t1 t2 t3 t4 t5 t6; obtain ⟨t0, t1, t2, t3, t4, t5, t6⟩ := DF.out.var.c7; obtain ⟨z0, z1, z2, z3, z4, z5, z6⟩ := DF.out.res.c7; have zf := DF.out.res.free))
   obtain ⟨u, hu', ou, U⟩ := st7 (b := w.heap.size) DF.out.res (.int .i64 E.now) (.slice E.aT E.T.length E.cT) (.slice E.aO E.O.length E.cO) (.slice E.aP E.P.length E.cP) (.slice E.aL E.L.length E.cL) (.slice E.aK E.K.length E.cK) (.int .i64 E.nx)
   rw [hu']
   clear hu'
   obtain ⟨fo, fb⟩ := DF.out.fin ou
   refine bodyPost_ret (results_threeE rfl _ _ _ [.int .i64 E.now, .slice E.aT E.T.length E.cT, .slice E.aO E.O.length E.cO, .slice E.aP E.P.length E.cP, .slice E.aL E.L.length E.cL, .slice E.aK E.K.length E.cK, .int .i64 E.nx] rfl U.cell Tryz.underlying31 rfl (by kernel_rfl)) rfl ?_
   exact ⟨E, _, _, rfl, fo, DF.out.sm, DF.out.hk, fb⟩
end Go.Proofs.YthiojkjcmhojoaaGreat
