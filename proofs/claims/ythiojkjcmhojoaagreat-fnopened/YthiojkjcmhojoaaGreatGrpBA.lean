import Derived.Test.YthiojkjcmhojoaaGreatGrpAX
import Derived.Laws.CopyOwn
namespace Go.Proofs.YthiojkjcmhojoaaGreat
open Go.ChangeShapes Go.WideShapes Go.ChangeAt Go.RowKit
set_option maxRecDepth 100000
set_option linter.unusedVariables false
set_option linter.unusedSimpArgs false
def flatB (ps:List (Int × Bool)):List Value:=ps.flatMap fun p=>[.int .i64 p.1,.bool p.2]
theorem flatB_append (ps qs:List (Int × Bool)):flatB (ps ++ qs)=flatB ps ++ flatB qs:=List.flatMap_append
theorem flatB_length (ps:List (Int × Bool)):(flatB ps).length=ps.length*2:=by
 induction ps with
 | nil=>rfl
 | cons p ps ih =>
  show (flatB ps).length+1+1=_
  rw [ih,List.length_cons]
  omega
theorem flatB_get (ps:List (Int × Bool)):∀i (h:i<ps.length),(flatB ps)[i*2]?=some (.int .i64 ps[i].1)∧(flatB ps)[i*2+1]?=some (.bool ps[i].2):=by
 induction ps with
 | nil=>intro i h;cases h
 | cons p ps ih =>
  intro i h
  cases i with
  | zero=>exact ⟨rfl,rfl⟩
  | succ i =>
   obtain ⟨h0,h1⟩:=ih i (by simpa using h)
   rw [show (i+1)*2=i*2+1+1 by omega]
   exact ⟨h0,h1⟩
theorem flatB_one (ps:List (Int × Bool)):∀u ∈ flatB ps,u.oneCell'=true:=by
 intro u hu
 obtain ⟨p,_,hp⟩:=List.mem_flatMap.1 hu
 simp only [List.mem_cons,List.not_mem_nil,or_false] at hp
 rcases hp with rfl|rfl <;> rfl
theorem flatB_set (zs:List (Int × Bool)):∀i (p:Int) (q:Bool),((flatB zs).set (i*2) (.int .i64 p)).set (i*2+1) (.bool q)=flatB (zs.set i (p,q)):=by
 induction zs with
 | nil=>intro i p q;rfl
 | cons z zs ih =>
  intro i p q
  cases i with
  | zero=>rfl
  | succ i =>
   show ((Value.int .i64 z.1 :: Value.bool z.2 :: flatB zs).set ((i+1)*2) _).set ((i+1)*2+1) _=Value.int .i64 z.1 :: Value.bool z.2 :: flatB (zs.set i (p,q))
   rw [show (i+1)*2=i*2+1+1 by omega]
   simp only [List.set_cons_succ]
   rw [ih]
theorem flatB_take (zs:List (Int × Bool)):∀i,(flatB zs).take (i*2)=flatB (zs.take i):=by
 induction zs with
 | nil=>intro i;simp [flatB]
 | cons z zs ih =>
  intro i
  cases i with
  | zero=>rfl
  | succ i =>
   show (Value.int .i64 z.1 :: Value.bool z.2 :: flatB zs).take ((i+1)*2)=Value.int .i64 z.1 :: Value.bool z.2 :: flatB (zs.take i)
   rw [show (i+1)*2=i*2+1+1 by omega]
   simp only [List.take_succ_cons]
   rw [ih]
theorem flatB_drop (zs:List (Int × Bool)):∀i,(flatB zs).drop (i*2)=flatB (zs.drop i):=by
 induction zs with
 | nil=>intro i;simp [flatB]
 | cons z zs ih =>
  intro i
  cases i with
  | zero=>rfl
  | succ i =>
   show (Value.int .i64 z.1 :: Value.bool z.2 :: flatB zs).drop ((i+1)*2)=flatB (zs.drop i)
   rw [show (i+1)*2=i*2+1+1 by omega]
   simp only [List.drop_succ_cons]
   rw [ih]
theorem flatB_splice (ps cs:List (Int × Bool)) (o:Nat):splice (flatB ps) (o*2) (flatB cs)=flatB (splice ps o cs):=by
 unfold splice
 rw [flatB_append,flatB_append,flatB_take,flatB_length,show o*2+cs.length*2=(o+cs.length)*2 by omega,flatB_drop]
def RowB (w:World) (g:Nat) (ps:List (Int × Bool)):Prop:=ps.length=50∧w.heap[g]?=some (.cells (flatB ps).toArray 124 (0,0))
theorem RowB.z {w:World} {g:Nat} {ps:List (Int × Bool)} (h:RowB w g ps):g<w.heap.size:=(Array.getElem?_eq_some_iff.1 h.2).1
theorem RowB.c0 {w:World} {g:Nat} {ps:List (Int × Bool)} (h:RowB w g ps) (i:Nat) (hi:i<ps.length):w.cell? ⟨g,i*2,none⟩=some (.int .i64 ps[i].1):=by
 rw [cell_of_row w g _ _ _ _ h.2,List.getElem?_toArray]
 exact (flatB_get ps i hi).1
theorem RowB.c1 {w:World} {g:Nat} {ps:List (Int × Bool)} (h:RowB w g ps) (i:Nat) (hi:i<ps.length):w.cell? ⟨g,i*2+1,none⟩=some (.bool ps[i].2):=by
 rw [cell_of_row w g _ _ _ _ h.2,List.getElem?_toArray]
 exact (flatB_get ps i hi).2
theorem RowB.fz {w:World} {g:Nat} {ps:List (Int × Bool)} (h:RowB w g ps) (j:Nat):w.frozen? ⟨g,j,none⟩=false:=frozen_of_row w g j _ _ h.2
theorem RowB.next {w w':World} {g:Nat} {ps:List (Int × Bool)} (h:RowB w g ps) (hb:Below w.heap.size w w'):RowB w' g ps:=⟨h.1,(hb.block g h.z).trans h.2⟩
theorem RowB.only {w w':World} {g b:Nat} {ps:List (Int × Bool)} (h:RowB w g ps) (ho:Only b w w') (hn:g≠b):RowB w' g ps:=⟨h.1,(ho.block g h.z hn).trans h.2⟩
theorem RowB.put {w:World} {g:Nat} {ps:List (Int × Bool)} (h:RowB w g ps) (i:Nat) (p:Int) (q:Bool):RowB ((w.setCell ⟨g,i*2,none⟩ (.int .i64 p)).setCell ⟨g,i*2+1,none⟩ (.bool q)) g (ps.set i (p,q)):=by
 refine ⟨by rw [List.length_set];exact h.1,?_⟩
 rw [heap_setCell_same _ g _ _ _ _ (heap_setCell_same _ g _ _ _ _ h.2)]
 simp only [List.setIfInBounds_toArray]
 rw [flatB_set]
theorem only_two {w:World} {g i j:Nat} (u v:Value):Only g w ((w.setCell ⟨g,i,none⟩ u).setCell ⟨g,j,none⟩ v):=((Only.refl _ w).setCell (p:=⟨g,i,none⟩) rfl _).setCell (p:=⟨g,j,none⟩) rfl _
theorem info_seats:(Tryz.prog.info? 124).map (·.size)=some 100:=by kernel_rfl
theorem info_seat:(Tryz.prog.info? 122).map (fun i=>(i.zero,i.size,i.bytes))=some (some (.agg #[.int .i64 0,.bool false]),2,16):=by kernel_rfl
theorem zero_seats:(Tryz.prog.info? 124).map (fun i=>(i.zero,i.size))=some (some (.agg (flatB (List.replicate 50 (0,false))).toArray),100):=by kernel_rfl
theorem und_seats:Tryz.prog.underlying 124=some (.array 50 122):=by kernel_rfl
theorem zeroV_seats (w:World):(zeroValue 124).run Tryz.prog w=.ok (.agg (flatB (List.replicate 50 (0,false))).toArray) w:=by
 have h:=zero_seats
 cases hq:Tryz.prog.info? 124 with
 | none=>rw [hq] at h;cases h
 | some i =>
  rw [hq] at h
  simp only [Option.map_some,Option.some.injEq,Prod.mk.injEq] at h
  simp [zeroValue,typeInfo,hq,h.1]
theorem size_row {ps:List (Int × Bool)} (h:ps.length=50):(flatB ps).toArray.size=100:=by
 rw [List.size_toArray,flatB_length,h]
theorem all_one (ps:List (Int × Bool)):(flatB ps).toArray.all (·.oneCell')=true:=Array.all_eq_true_iff_forall_mem.2 (fun v hv=>flatB_one ps v (by simpa using hv))
theorem rowB_set {w:World} {g:Nat} {ps qs:List (Int × Bool)} (h:RowB w g ps) (hq:qs.length=50):RowB (w.setRow g (flatB qs).toArray) g qs∧Only g w (w.setRow g (flatB qs).toArray) :=
 ⟨⟨hq,setRow_heap w g _ _ _ _ h.2⟩,⟨rfl,rfl,rfl,by simp [World.setRow],fun k hk hn=>setRow_other w g k _ (by omega)⟩⟩
theorem rowB_new (w:World) {ps:List (Int × Bool)} (h:ps.length=50):RowB (w.alloc (.cells (flatB ps).toArray 124)) w.heap.size ps:=⟨h,heap_alloc_new _ _⟩
theorem part_seat (w:World) (ps:List (Int × Bool)) (i:Nat) (h:i<ps.length):(part 122 (flatB ps).toArray (i*2)).run Tryz.prog w=.ok (.agg #[.int .i64 ps[i].1,.bool ps[i].2]) w:=by
 have hs:(sizeOf 122).run Tryz.prog w=.ok 2 w:=by
  obtain ⟨i0,hi,_,hz1,_⟩:=info_parts info_seat
  simp [sizeOf,typeInfo,hi,hz1]
 have ha:(isAgg 122).run Tryz.prog w=.ok true w:=by
  unfold isAgg
  rw [Sem.run_bind,run_underlying Tryz.underlying122]
  simp
 have he:(flatB ps).toArray.extract (i*2) (i*2+2)=#[.int .i64 ps[i].1,.bool ps[i].2]:=by
  obtain ⟨h0,h1⟩:=flatB_get ps i h
  have hl:=flatB_length ps
  apply Array.ext_getElem?
  intro j
  rw [Array.getElem?_extract]
  match j with
  | 0=>rw [if_pos (by rw [List.size_toArray];omega),List.getElem?_toArray];exact h0
  | 1=>rw [if_pos (by rw [List.size_toArray];omega),List.getElem?_toArray];exact h1
  | j+2=>rw [if_neg (by rw [List.size_toArray];omega)];simp
 simp only [part,Sem.run_bind,ha,hs,Result.andThen_ok,↓reduceIte,Sem.run_pure,he]
theorem eq_seat (w:World) (d:Nat) (p q:Int × Bool):(Op.equalIn (d+2) 122 (.agg #[.int .i64 p.1,.bool p.2]) (.agg #[.int .i64 q.1,.bool q.2])).run Tryz.prog w=.ok (decide (p=q)) w:=by
 have h:decide (p=q)=((p.1 == q.1) && (p.2 == q.2)):=by
  obtain ⟨p1,p2⟩:=p
  obtain ⟨q1,q2⟩:=q
  by_cases h1:p1=q1
  ·subst h1
   cases p2 <;> cases q2 <;> simp
  ·simp [h1]
 rw [h]
 go_simp
 by_cases h1:p.1=q.1 <;> by_cases h2:p.2=q.2 <;> simp [h1,h2]
theorem eq_items (w:World) (d:Nat) (ps qs:List (Int × Bool)) (hp:ps.length=50) (hq:qs.length=50):∀(is:List Nat),(∀i ∈ is,i<50)→(Op.eqItems (d+2) 122 2 (flatB ps).toArray (flatB qs).toArray is).run Tryz.prog w=.ok (decide (∀i ∈ is,ps[i]?=qs[i]?)) w
 | [],_=>by simp [Op.eqItems]
 | i :: is,h=>by
  have hi:i<50:=h i (by simp)
  have ih:=eq_items w d ps qs hp hq is (fun j hj=>h j (by simp [hj]))
  simp only [Op.eqItems,Sem.run_bind,part_seat w ps i (by omega),part_seat w qs i (by omega),Result.andThen_ok,eq_seat]
  have e1:ps[i]?=some ps[i]:=List.getElem?_eq_getElem (by omega)
  have e2:qs[i]?=some qs[i]:=List.getElem?_eq_getElem (by omega)
  by_cases he:ps[i]=qs[i]
  ·simp only [he,decide_true,Bool.not_true,Bool.false_eq_true,if_false]
   rw [ih]
   congr 1
   simp only [decide_eq_decide]
   exact ⟨fun k j hj=>by
    rcases List.mem_cons.1 hj with rfl|hj
    ·rw [e1,e2,he]
    ·exact k j hj,fun k j hj=>k j (by simp [hj])⟩
  ·have hf:decide (ps[i]=qs[i])=false:=decide_eq_false he
   simp only [hf,Bool.not_false,if_true,Sem.run_pure]
   congr 1
   exact (decide_eq_false (fun k=>he (by have:=k i (by simp);rw [e1,e2] at this;exact Option.some.inj this))).symm
theorem eq_rows (w:World) (ps qs:List (Int × Bool)) (hp:ps.length=50) (hq:qs.length=50):(Op.equalIn 10000 124 (.agg (flatB ps).toArray) (.agg (flatB qs).toArray)).run Tryz.prog w=.ok (decide (ps=qs)) w:=by
 obtain ⟨i0,hi,_,hz1,_⟩:=info_parts info_seat
 rw [run_equalIn_array w 9999 _ _ und_seats hi]
 have hc:Tryz.prog.cellsOf 122=2:=by kernel_rfl
 rw [hc,eq_items w 9997 ps qs hp hq (List.range 50) (fun i hi=>List.mem_range.1 hi)]
 congr 1
 simp only [decide_eq_decide]
 constructor
 ·intro k
  apply List.ext_getElem?
  intro i
  by_cases h:i<50
  ·exact k i (List.mem_range.2 h)
  ·rw [List.getElem?_eq_none (by omega),List.getElem?_eq_none (by omega)]
 ·intro e i _
  rw [e]
theorem row_setCells {g:Nat} {t:TypeId}:∀(vs:List Value) (o:Nat) (cur:List Value) (w:World),w.heap[g]?=some (.cells cur.toArray t (0,0))→o+vs.length≤cur.length→(w.setCells g o vs).heap[g]?=some (.cells (splice cur o vs).toArray t (0,0))
 | [],o,cur,w,h,_=>by simpa [World.setCells,splice] using h
 | v :: r,o,cur,w,h,hl=>by
  rw [World.setCells]
  rw [List.length_cons] at hl
  have h1:(w.setCell ⟨g,o,none⟩ v).heap[g]?=some (.cells (cur.set o v).toArray t (0,0)):=by
   rw [heap_setCell_same _ g _ _ _ _ h]
   simp only [List.setIfInBounds_toArray]
  rw [row_setCells r (o+1) (cur.set o v) _ h1 (by rw [List.length_set];omega)]
  have e:splice (cur.set o v) (o+1) r=splice cur o (v :: r):=by
   unfold splice
   rw [List.take_succ_eq_append_getElem (by rw [List.length_set];omega),List.getElem_set_self,List.take_set_of_le (Nat.le_refl _),List.drop_set,if_pos (by omega),List.length_cons,List.append_assoc,show o+1+r.length=o+(r.length+1) by omega]
   rfl
  rw [e]
theorem only_setCells {g:Nat}:∀(vs:List Value) (o:Nat) (w:World),Only g w (w.setCells g o vs)
 | [],_,w=>Only.refl _ w
 | v :: r,o,w=>((Only.refl _ w).setCell (p:=⟨g,o,none⟩) rfl v).trans (only_setCells r (o+1) _)
theorem copyB {w:World} {g:Nat} {ps:List (Int × Bool)} (h:RowB w g ps) (ty:TypeId) (d s n c c':Nat) (x y:Addr) (hd:d<50→x=⟨g,d*2,none⟩) (hs:s<50→y=⟨g,s*2,none⟩) (hd50:d≤50) (hn:n=Nat.min (50-s) (50-d)) :
 ∃w',(Builtin.copy_ #[149,149] ty #[.slice (some x) (50-d) c,.slice (some y) (50-s) c']).run Tryz.prog w=.ok (goInt n) w'∧RowB w' g (splice ps d ((ps.drop s).take n))∧Only g w w':=by
 have hl:=h.1
 obtain ⟨i0,hi,_,hz1,_⟩:=info_parts info_seat
 have hsz:(sizeOf 122).run Tryz.prog w=.ok 2 w:=by simp [sizeOf,typeInfo,hi,hz1]
 have hnn:n≤50-s∧n≤50-d:=by rw [hn];exact ⟨Nat.min_le_left _ _,Nat.min_le_right _ _⟩
 have hlen:((ps.drop s).take n).length=n:=by rw [List.length_take,List.length_drop];omega
 obtain ⟨cs,hcs⟩:∃cs,cs=flatB ((ps.drop s).take n):=⟨_,rfl⟩
 have hcl:cs.length=n*2:=by rw [hcs,flatB_length,hlen]
 have hload:(loadCells y (n*2)).run Tryz.prog w=.ok cs.toArray w:=by
  rw [←hcl]
  refine run_loadCells_list w y cs (fun j v hv=>?_)
  have hj:j<n*2:=by have:=(List.getElem?_eq_some_iff.1 hv).1;omega
  rw [hs (by omega)]
  have e2:(⟨g,s*2,none⟩:Addr).add j=⟨g,s*2+j,none⟩:=by unfold Addr.add;split <;> simp_all
  rw [e2,cell_of_row w g _ _ _ _ h.2,List.getElem?_toArray]
  rw [hcs,←flatB_take,←flatB_drop,List.getElem?_take,if_pos hj,List.getElem?_drop] at hv
  exact hv
 refine ⟨w.setCells g (d*2) cs,?_,⟨by rw [length_splice _ _ _ (by rw [hlen];omega)];exact hl,?_⟩,only_setCells _ _ _⟩
 ·have hst:(storeCells x cs 0).run Tryz.prog w=.ok () (w.setCells g (d*2) cs):=by
   by_cases h0:n=0
   ·have:cs=[]:=List.eq_nil_of_length_eq_zero (by omega)
    rw [this]
    rfl
   ·rw [hd (by omega)]
    have:=run_storeCells_cells (P:=Tryz.prog) g (d*2) cs 0 w (fun j hj=>by
     rw [Nat.add_zero,cell_of_row w g _ _ _ _ h.2,List.getElem?_toArray,List.getElem?_eq_getElem (by rw [flatB_length];omega)]
     rfl) (fun j hj=>h.fz _) (fun v hv=>flatB_one _ v (by rw [hcs] at hv;exact hv))
    simpa using this
  simp [Builtin.copy_,run_underlying Tryz.underlying149,Builtin.lenOf,Builtin.firstCells,hsz,←hn,hload,hst]
 ·have:=row_setCells cs (d*2) (flatB ps) w h.2 (by rw [flatB_length];omega)
  rw [this,hcs,flatB_splice]
theorem clearB {w:World} {g:Nat} {ps:List (Int × Bool)} (h:RowB w g ps) (ty:TypeId) (c:Nat) :
 ∃w',(Builtin.clear_ #[149] ty #[.slice (some ⟨g,98,none⟩) 1 c]).run Tryz.prog w=.ok (.tuple #[]) w'∧RowB w' g (ps.set 49 (0,false))∧Only g w w':=by
 have hl:=h.1
 refine ⟨(w.setCell ⟨g,49*2,none⟩ (.int .i64 0)).setCell ⟨g,49*2+1,none⟩ (.bool false),?_,h.put 49 0 false,only_two _ _⟩
 have hst:=run_storeCells_cells (P:=Tryz.prog) g 98 [.int .i64 0,.bool false] 0 w (fun j hj=>by
  rw [Nat.add_zero,cell_of_row w g _ _ _ _ h.2,List.getElem?_toArray,List.getElem?_eq_getElem (by rw [flatB_length];simp at hj;omega)]
  rfl) (fun j hj=>h.fz _) (fun v hv=>by simp at hv;rcases hv with rfl|rfl <;> rfl)
 have hv:∀w,(zeroValue 122).run Tryz.prog w=.ok (.agg #[.int .i64 0,.bool false]) w:=Tryz.zeroValue122
 have hzc:(Builtin.zeroCells (Value.agg #[.int .i64 0,.bool false]).cells 1).toList=[.int .i64 0,.bool false]:=by
  show (Builtin.zeroCells #[.int .i64 0,.bool false] 1).toList=_
  simp only [Builtin.zeroCells]
  apply List.ext_getElem
  ·simp
  ·intro i h1 h2
   match i,h2 with
   | 0,_=>simp
   | 1,_=>simp
 simp [Builtin.clear_,run_underlying Tryz.underlying149,hv,hzc,hst]
 rfl
def seatsR (xs:List Int):List (Int × Bool):=xs.map (fun x=>(x,true)) ++ List.replicate (50-xs.length) (0,false)
theorem seatsR_len {xs:List Int} (h:xs.length≤50):(seatsR xs).length=50:=by
 unfold seatsR
 rw [List.length_append,List.length_map,List.length_replicate]
 omega
theorem seatsR_nil:seatsR []=List.replicate 50 (0,false):=rfl
theorem seatsR_in {xs:List Int} {i:Nat} (h:i<xs.length) (h':i<(seatsR xs).length):(seatsR xs)[i]=(xs[i],true):=by
 have e:(seatsR xs)[i]?=some (xs[i],true):=by
  unfold seatsR
  rw [List.getElem?_append_left (by rw [List.length_map];exact h),List.getElem?_map,List.getElem?_eq_getElem h]
  rfl
 rw [List.getElem?_eq_getElem h'] at e
 exact Option.some.inj e
theorem seatsR_out {xs:List Int} {i:Nat} (h:xs.length≤i) (h':i<(seatsR xs).length):(seatsR xs)[i]=(0,false):=by
 have hl:i<50∨50≤i:=by omega
 have e:(seatsR xs)[i]?=some (0,false):=by
  have h2:=h'
  unfold seatsR at h2 ⊢
  rw [List.length_append,List.length_map,List.length_replicate] at h2
  rw [List.getElem?_append_right (by rw [List.length_map];exact h),List.length_map,List.getElem?_replicate,if_pos (by omega)]
 rw [List.getElem?_eq_getElem h'] at e
 exact Option.some.inj e
def memb (ps:List (Int × Bool)):List Int:=(ps.filter (·.2)).map (·.1)
theorem memb_seats (xs:List Int):memb (seatsR xs)=xs:=by
 unfold memb seatsR
 rw [List.filter_append,List.map_append]
 have h1:(xs.map fun x=>(x,true)).filter (·.2)=xs.map fun x=>(x,true):=List.filter_eq_self.2 (fun p hp=>by obtain ⟨x,_,rfl⟩:=List.mem_map.1 hp;rfl)
 have h2:(List.replicate (50-xs.length) ((0:Int),false)).filter (·.2)=[]:=List.filter_eq_nil_iff.2 (fun p hp=>by rw [List.eq_of_mem_replicate hp];decide)
 rw [h1,h2,List.map_map,List.map_nil,List.append_nil]
 exact List.map_id' xs
theorem seatsR_inj {xs ys:List Int} (h:seatsR xs=seatsR ys):xs=ys:=by rw [←memb_seats xs,h,memb_seats]
theorem seatsR_push {ys:List Int} {y:Int} (h:ys.length<50):(seatsR ys).set ys.length (y,true)=seatsR (ys ++ [y]):=by
 unfold seatsR
 obtain ⟨m,hm⟩:∃m,50-ys.length=m+1:=⟨50-ys.length-1,by omega⟩
 rw [hm,List.length_append,List.length_singleton,show 50-(ys.length+1)=m by omega,List.map_append,List.replicate_succ,List.set_append_right _ _ (by rw [List.length_map];exact Nat.le_refl _),List.length_map,Nat.sub_self,List.set_cons_zero,List.append_assoc]
 rfl
theorem seatsR_ins {xs:List Int} {k:Nat} {id:Int} (hk:k≤xs.length) (h:xs.length<50):(splice (seatsR xs) (k+1) (((seatsR xs).drop k).take (49-k))).set k (id,true)=seatsR (xs.take k ++ [id] ++ xs.drop k):=by
 have hl:=seatsR_len (xs:=xs) (by omega)
 have htl:(((seatsR xs).drop k).take (49-k)).length=49-k:=by rw [List.length_take,List.length_drop,hl];omega
 have hdn:(seatsR xs).drop (k+1+(49-k))=[]:=List.drop_eq_nil_of_le (by rw [hl];omega)
 unfold splice
 rw [htl,hdn,List.append_nil,List.set_append_left _ _ (by rw [List.length_take,hl];omega),List.take_succ_eq_append_getElem (by rw [hl];omega),List.set_append_right _ _ (by rw [List.length_take];omega)]
 have e0:k-((seatsR xs).take k).length=0:=by rw [List.length_take,hl];omega
 rw [e0,List.set_cons_zero]
 have ht:(seatsR xs).take k=(xs.take k).map fun x=>(x,true):=by
  unfold seatsR
  rw [List.take_append_of_le_length (by rw [List.length_map];exact hk),List.map_take]
 have hd:(seatsR xs).drop k=(xs.drop k).map (fun x=>(x,true)) ++ List.replicate (50-xs.length) (0,false):=by
  unfold seatsR
  rw [List.drop_append_of_le_length (by rw [List.length_map];exact hk),List.map_drop]
 obtain ⟨m,hm⟩:∃m,50-xs.length=m+1:=⟨50-xs.length-1,by omega⟩
 have hdt:((seatsR xs).drop k).take (49-k)=(xs.drop k).map (fun x=>(x,true)) ++ List.replicate m (0,false):=by
  rw [hd,hm,List.replicate_succ',←List.append_assoc,List.take_append_of_le_length (by rw [List.length_append,List.length_map,List.length_drop,List.length_replicate];omega),List.take_of_length_le (by rw [List.length_append,List.length_map,List.length_drop,List.length_replicate];omega)]
 rw [ht,hdt]
 unfold seatsR
 rw [show 50-(xs.take k ++ [id] ++ xs.drop k).length=m by rw [List.length_append,List.length_append,List.length_take,List.length_drop,List.length_singleton];omega]
 simp only [List.map_append,List.map_cons,List.map_nil,List.append_assoc,List.cons_append,List.nil_append]
theorem seatsR_del {xs:List Int} {k:Nat} (hk:k<xs.length) (h:xs.length≤50):(splice (seatsR xs) k (((seatsR xs).drop (k+1)).take (49-k))).set 49 (0,false)=seatsR (xs.take k ++ xs.drop (k+1)):=by
 have hl:=seatsR_len (xs:=xs) h
 have htk:((seatsR xs).drop (k+1)).take (49-k)=(seatsR xs).drop (k+1):=List.take_of_length_le (by rw [List.length_drop,hl];omega)
 have hdl:((seatsR xs).drop (k+1)).length=49-k:=by rw [List.length_drop,hl];omega
 rw [htk]
 unfold splice
 rw [hdl,show k+(49-k)=49 by omega]
 have e49:(seatsR xs).drop 49=[(seatsR xs)[49]'(by rw [hl];omega)]:=by
  rw [List.drop_eq_getElem_cons (by rw [hl];omega),List.drop_eq_nil_of_le (by rw [hl];omega)]
 rw [e49,←List.append_assoc,List.set_append_right _ _ (by rw [List.length_append,List.length_take,hdl,hl];omega)]
 rw [show 49-((seatsR xs).take k ++ (seatsR xs).drop (k+1)).length=0 by rw [List.length_append,List.length_take,hdl,hl];omega,List.set_cons_zero]
 have ht:(seatsR xs).take k=(xs.take k).map fun x=>(x,true):=by
  unfold seatsR
  rw [List.take_append_of_le_length (by rw [List.length_map];omega),List.map_take]
 have hd:(seatsR xs).drop (k+1)=(xs.drop (k+1)).map (fun x=>(x,true)) ++ List.replicate (50-xs.length) (0,false):=by
  unfold seatsR
  rw [List.drop_append_of_le_length (by rw [List.length_map];omega),List.map_drop]
 rw [ht,hd]
 unfold seatsR
 rw [show 50-(xs.take k ++ xs.drop (k+1)).length=(50-xs.length)+1 by rw [List.length_append,List.length_take,List.length_drop];omega,List.replicate_succ']
 simp only [List.map_append,List.append_assoc]
theorem mem_lt {xs:List Int} (h:MemTo xs xs.length):∀(d i:Nat) (hi:i+d+1<xs.length),xs[i]<xs[i+d+1]
 | 0,i,hi=>(h (i+1) hi hi).2 i (by omega) rfl
 | d+1,i,hi=>by
  have h1:=mem_lt h d i (by omega)
  have h2:=(h (i+d+1+1) (by omega) (by omega)).2 (i+d+1) (by omega) rfl
  exact Int.lt_trans h1 h2
theorem mem_less {xs:List Int} (h:MemTo xs xs.length) {i j:Nat} (hij:i<j) (hj:j<xs.length):xs[i]<xs[j]:=by
 have:=mem_lt h (j-i-1) i (by omega)
 rw [show xs[i+(j-i-1)+1]'(by omega)=xs[j] by congr 1;omega] at this
 exact this
def pB (id:Int) (p:Int × Bool):Bool:=!p.2 || decide (id≤p.1)
theorem find_seat {xs:List Int} {id:Int} {k:Nat} (hl:xs.length≤50) (hk:k<(seatsR xs).length) (h1:pB id (seatsR xs)[k]=true) (h2:∀m (hm:m<(seatsR xs).length),m<k→pB id (seatsR xs)[m]=false):k≤xs.length∧(∀j (hj:j<xs.length),j<k→xs[j]<id)∧(∀(h:k<xs.length),id≤xs[k]):=by
 have hlen:=seatsR_len hl
 have hkl:k≤xs.length:=by
  rcases Nat.lt_or_ge xs.length k with h|h
  ·have:=h2 xs.length (by omega) h
   rw [seatsR_out (Nat.le_refl _)] at this
   cases this
  ·exact h
 refine ⟨hkl,fun j hj hjk=>?_,fun h=>?_⟩
 ·have:=h2 j (by omega) hjk
  rw [seatsR_in hj] at this
  simp [pB] at this
  exact this
 ·rw [seatsR_in h] at h1
  simp [pB] at h1
  exact h1
theorem find_has_SeatMath {xs:List Int} {id:Int} {k:Nat} (hM:MemTo xs xs.length) (h1:∀j (hj:j<xs.length),j<k→xs[j]<id) (h2:∀(h:k<xs.length),id≤xs[k]):(hasI id xs=true ↔ ∃h:k<xs.length,xs[k]=id):=by
 constructor
 ·intro h
  obtain ⟨j,hj,e⟩:=List.mem_iff_getElem.1 (of_decide_eq_true h)
  have hkj:k≤j:=by
   rcases Nat.lt_or_ge j k with h'|h'
   ·have:=h1 j hj h'
    omega
   ·exact h'
  refine ⟨by omega,?_⟩
  have ha:=h2 (by omega)
  rcases Nat.lt_or_ge k j with h'|h'
  ·have:=mem_less hM h' hj
   omega
  ·obtain rfl:k=j:=by omega
   exact e
 ·rintro ⟨h,e⟩
  exact decide_eq_true (by rw [←e];exact List.getElem_mem h)
theorem delI_at {xs:List Int} {id:Int} {k:Nat} (hM:MemTo xs xs.length) (hk:k<xs.length) (he:xs[k]=id):delI xs id=xs.take k ++ xs.drop (k+1):=by
 have hx:xs=xs.take k ++ (id :: xs.drop (k+1)):=by
  rw [←he,←List.drop_eq_getElem_cons hk,List.take_append_drop]
 have h1:(xs.take k).filter (fun y=>!decide (y=id))=xs.take k:=List.filter_eq_self.2 (fun y hy=>by
  obtain ⟨j,hj,e⟩:=List.mem_iff_getElem.1 hy
  rw [List.length_take] at hj
  rw [List.getElem_take] at e
  have:=mem_less hM (show j<k by omega) hk
  simp
  omega)
 have h2:(xs.drop (k+1)).filter (fun y=>!decide (y=id))=xs.drop (k+1):=List.filter_eq_self.2 (fun y hy=>by
  obtain ⟨j,hj,e⟩:=List.mem_iff_getElem.1 hy
  rw [List.length_drop] at hj
  rw [List.getElem_drop] at e
  have:=mem_less hM (show k<k+1+j by omega) (by omega)
  simp
  omega)
 unfold delI
 conv=>lhs;rw [hx]
 rw [List.filter_append,List.filter_cons,h1,h2]
 simp
end Go.Proofs.YthiojkjcmhojoaaGreat
