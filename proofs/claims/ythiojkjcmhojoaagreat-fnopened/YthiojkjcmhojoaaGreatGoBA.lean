import Derived.Test.YthiojkjcmhojoaaGreatGoAX
import Derived.Laws.CopyOwn
namespace Go.Proofs.YthiojkjcmhojoaaGreat
open Go.ChangeShapes Go.WideShapes Go.ChangeAt Go.RowKit
set_option maxRecDepth 100000
set_option linter.all false
def zb3(ps:List (Int × Bool)):List Value:=ps.flatMap fun p=>[.int .i64 p.1,.bool p.2]
theorem zkp(ps qs:List (Int × Bool)):zb3 (ps ++ qs)=zb3 ps ++ zb3 qs:=List.flatMap_append
section
variable(ps:List (Int × Bool))
theorem zdd:(zb3 ps).length=ps.length*2:=by
 induction ps with
 | nil=>rfl| cons p ps ih =>show (zb3 ps).length+1+1=_;rw[ih,List.length_cons];omega
theorem zmm:∀i (h:i<ps.length),(zb3 ps)[i*2]?=some (.int .i64 ps[i].1)/\(zb3 ps)[i*2+1]?=some (.bool ps[i].2):=by
 induction ps with
 | nil=>intro i h;cases h
 | cons p ps ih =>
  intro i h;cases i with
  | zero=>exact⟨rfl,rfl⟩| succ i =>obtain⟨h0,h1⟩:=ih i (by simpa using h);rw[show (i+1)*2=i*2+1+1 by omega];exact⟨h0,h1⟩
theorem zq6:∀u ∈ zb3 ps,u.oneCell'=true:=by intro u hu;obtain⟨p,_,hp⟩:=List.mem_flatMap.1 hu;simp only[List.mem_cons,List.not_mem_nil,or_false]at hp;rcases hp with rfl|rfl<;>rfl
end
section
variable(zs:List (Int × Bool))
theorem zyo:∀i (p:Int) (q:Bool),((zb3 zs).set (i*2) (.int .i64 p)).set (i*2+1) (.bool q)=zb3 (zs.set i (p,q)):=by
 induction zs with
 | nil=>intro i p q;rfl
 | cons z zs ih =>
  intro i p q;cases i with
  | zero=>rfl| succ i =>show ((Value.int .i64 z.1 :: Value.bool z.2 :: zb3 zs).set ((i+1)*2) _).set ((i+1)*2+1) _=Value.int .i64 z.1 :: Value.bool z.2 :: zb3 (zs.set i (p,q));rw[show (i+1)*2=i*2+1+1 by omega];simp only[List.set_cons_succ];rw[ih]
theorem zoc:∀i,(zb3 zs).take (i*2)=zb3 (zs.take i):=by
 induction zs with
 | nil=>intro i;simp[zb3]
 | cons z zs ih =>
  intro i;cases i with
  | zero=>rfl| succ i =>show (Value.int .i64 z.1 :: Value.bool z.2 :: zb3 zs).take ((i+1)*2)=Value.int .i64 z.1 :: Value.bool z.2 :: zb3 (zs.take i);rw[show (i+1)*2=i*2+1+1 by omega];simp only[List.take_succ_cons];rw[ih]
theorem zod:∀i,(zb3 zs).drop (i*2)=zb3 (zs.drop i):=by
 induction zs with
 | nil=>intro i;simp[zb3]
 | cons z zs ih =>
  intro i;cases i with
  | zero=>rfl| succ i =>show (Value.int .i64 z.1 :: Value.bool z.2 :: zb3 zs).drop ((i+1)*2)=zb3 (zs.drop i);rw[show (i+1)*2=i*2+1+1 by omega];simp only[List.drop_succ_cons];rw[ih]
end
theorem zq7(ps cs:List (Int × Bool))(o:Nat):splice (zb3 ps) (o*2) (zb3 cs)=zb3 (splice ps o cs):=by unfold splice;rw[zkp,zkp,zoc,zdd,show o*2+cs.length*2=(o+cs.length)*2 by omega,zod]
def RowB(w:World)(g:Nat)(ps:List (Int × Bool)):Prop:=ps.length=50/\w.heap[g]?=some (.cells (zb3 ps).toArray 124 (0,0))
section
variable{w:World}{g:Nat}{ps:List (Int × Bool)}
theorem RowB.z(h:RowB w g ps):g<w.heap.size:=(Array.getElem?_eq_some_iff.1 h.2).1
theorem RowB.c0(h:RowB w g ps)(i:Nat)(hi:i<ps.length):w.cell? ⟨g,i*2,none⟩=some (.int .i64 ps[i].1):=by rw[cell_of_row w g _ _ _ _ h.2,List.getElem?_toArray];exact (zmm ps i hi).1
theorem RowB.c1(h:RowB w g ps)(i:Nat)(hi:i<ps.length):w.cell? ⟨g,i*2+1,none⟩=some (.bool ps[i].2):=by rw[cell_of_row w g _ _ _ _ h.2,List.getElem?_toArray];exact (zmm ps i hi).2
theorem RowB.fz(h:RowB w g ps)(j:Nat):w.frozen? ⟨g,j,none⟩=false:=frozen_of_row w g j _ _ h.2
end
theorem RowB.next{w w':World}{g:Nat}{ps:List (Int × Bool)}(h:RowB w g ps)(hb:Bw w w'):RowB w' g ps:=⟨h.1,(hb.block g h.z).trans h.2⟩
theorem RowB.only{w w':World}{g b:Nat}{ps:List (Int × Bool)}(h:RowB w g ps)(ho:Only b w w')(hn:g≠b):RowB w' g ps:=⟨h.1,(ho.block g h.z hn).trans h.2⟩
theorem RowB.put{w:World}{g:Nat}{ps:List (Int × Bool)}(h:RowB w g ps)(i:Nat)(p:Int)(q:Bool):RowB ((w.setCell ⟨g,i*2,none⟩ (.int .i64 p)).setCell ⟨g,i*2+1,none⟩ (.bool q)) g (ps.set i (p,q)):=by refine⟨by rw[List.length_set];exact h.1,?_⟩;rw[heap_setCell_same _ g _ _ _ _ (heap_setCell_same _ g _ _ _ _ h.2)];simp only[List.setIfInBounds_toArray];rw[zyo]
theorem zo8{w:World}{g i j:Nat}(u v:Value):Only g w ((w.setCell ⟨g,i,none⟩ u).setCell ⟨g,j,none⟩ v):=((Only.refl _ w).setCell (p:=⟨g,i,none⟩) rfl _).setCell (p:=⟨g,j,none⟩) rfl _
theorem zbm:(Tryz.prog.info? 124).map (·.size)=some 100:=by kernel_rfl
theorem zhj:(Tryz.prog.info? 122).map (fun i=>(i.zero,i.size,i.bytes))=some (some (.agg #[.int .i64 0,.bool false]),2,16):=by kernel_rfl
theorem zv8:(Tryz.prog.info? 124).map (fun i=>(i.zero,i.size))=some (some (.agg (zb3 (List.replicate 50 (0,false))).toArray),100):=by kernel_rfl
theorem zcm:Tryz.prog.underlying 124=some (.array 50 122):=by kernel_rfl
theorem zsx(w:World):(zeroValue 124).run Tryz.prog w=.ok (.agg (zb3 (List.replicate 50 (0,false))).toArray) w:=by
 have h:=zv8;cases hq:Tryz.prog.info? 124 with
 | none=>rw[hq]at h;cases h| some i =>rw[hq]at h;simp only[Option.map_some,Option.some.injEq,Prod.mk.injEq]at h;simp[zeroValue,typeInfo,hq,h.1]
theorem za6{ps:List (Int × Bool)}(h:ps.length=50):(zb3 ps).toArray.size=100:=by rw[List.size_toArray,zdd,h]
theorem ziu(ps:List (Int × Bool)):(zb3 ps).toArray.all (·.oneCell')=true:=Array.all_eq_true_iff_forall_mem.2 (fun v hv=>zq6 ps v (by simpa using hv))
theorem zo9{w:World}{g:Nat}{ps qs:List (Int × Bool)}(h:RowB w g ps)(hq:qs.length=50):RowB (w.setRow g (zb3 qs).toArray) g qs/\Only g w (w.setRow g (zb3 qs).toArray) :=
 ⟨⟨hq,setRow_heap w g _ _ _ _ h.2⟩,⟨rfl,rfl,rfl,by simp[World.setRow],fun k hk hn=>setRow_other w g k _ (by omega)⟩⟩
theorem zhz(w:World){ps:List (Int × Bool)}(h:ps.length=50):RowB (w.alloc (.cells (zb3 ps).toArray 124)) w.heap.size ps:=⟨h,heap_alloc_new _ _⟩
theorem zmn(w:World)(ps:List (Int × Bool))(i:Nat)(h:i<ps.length):(part 122 (zb3 ps).toArray (i*2)).run Tryz.prog w=.ok (.agg #[.int .i64 ps[i].1,.bool ps[i].2]) w:=by
 have hs:(sizeOf 122).run Tryz.prog w=.ok 2 w:=by obtain⟨i0,hi,_,hz1,_⟩:=info_parts zhj;simp[sizeOf,typeInfo,hi,hz1]
 have ha:(isAgg 122).run Tryz.prog w=.ok true w:=by unfold isAgg;rw[Sem.run_bind,run_underlying Tryz.underlying122];simp
 have he:(zb3 ps).toArray.extract (i*2) (i*2+2)=#[.int .i64 ps[i].1,.bool ps[i].2]:=by
  obtain⟨h0,h1⟩:=zmm ps i h;have hl:=zdd ps;apply Array.ext_getElem?;intro j;rw[Array.getElem?_extract];match j with
  | 0=>rw[if_pos (by rw[List.size_toArray];omega),List.getElem?_toArray];exact h0| 1=>rw[if_pos (by rw[List.size_toArray];omega),List.getElem?_toArray];exact h1| j+2=>rw[if_neg (by rw[List.size_toArray];omega)];simp
 simp only[part,Sem.run_bind,ha,hs,Result.andThen_ok,↓reduceIte,Sem.run_pure,he]
theorem z24(w:World)(d:Nat)(p q:Int × Bool):(Op.equalIn (d+2) 122 (.agg #[.int .i64 p.1,.bool p.2]) (.agg #[.int .i64 q.1,.bool q.2])).run Tryz.prog w=.ok (decide (p=q)) w:=by
 have h:decide (p=q)=((p.1 == q.1) && (p.2 == q.2)):=by
  obtain⟨p1,p2⟩:=p;obtain⟨q1,q2⟩:=q;by_cases h1:p1=q1
  ·subst h1;cases p2<;>cases q2<;>simp
  ·simp[h1]
 rw[h];go_simp;by_cases h1:p.1=q.1<;>by_cases h2:p.2=q.2<;>simp[h1,h2]
theorem zu3(w:World)(d:Nat)(ps qs:List (Int × Bool))(hp:ps.length=50)(hq:qs.length=50):∀(is:List Nat),(∀i ∈ is,i<50)->(Op.eqItems (d+2) 122 2 (zb3 ps).toArray (zb3 qs).toArray is).run Tryz.prog w=.ok (decide (∀i ∈ is,ps[i]?=qs[i]?)) w
 | [],_=>by simp[Op.eqItems]
 | i :: is,h=>by
  have hi:i<50:=h i (by simp);have ih:=zu3 w d ps qs hp hq is (fun j hj=>h j (by simp[hj]));simp only[Op.eqItems,Sem.run_bind,zmn w ps i (by omega),zmn w qs i (by omega),Result.andThen_ok,z24];have e1:ps[i]?=some ps[i]:=List.getElem?_eq_getElem (by omega);have e2:qs[i]?=some qs[i]:=List.getElem?_eq_getElem (by omega);by_cases he:ps[i]=qs[i]
  ·simp only[he,decide_true,Bool.not_true,Bool.false_eq_true,if_false];rw[ih];congr 1;simp only[decide_eq_decide];exact⟨fun k j hj=>by
    rcases List.mem_cons.1 hj with rfl|hj
    ·rw[e1,e2,he]
    ·exact k j hj,fun k j hj=>k j (by simp[hj])⟩
  ·have hf:decide (ps[i]=qs[i])=false:=decide_eq_false he;simp only[hf,Bool.not_false,if_true,Sem.run_pure];congr 1;exact (decide_eq_false (fun k=>he (by have:=k i (by simp);rw[e1,e2]at this;exact osi this))).symm
theorem zyp(w:World)(ps qs:List (Int × Bool))(hp:ps.length=50)(hq:qs.length=50):(Op.equalIn 10000 124 (.agg (zb3 ps).toArray) (.agg (zb3 qs).toArray)).run Tryz.prog w=.ok (decide (ps=qs)) w:=by
 obtain⟨i0,hi,_,hz1,_⟩:=info_parts zhj;rw[run_equalIn_array w 9999 _ _ zcm hi];have hc:Tryz.prog.cellsOf 122=2:=by kernel_rfl
 rw[hc,zu3 w 9997 ps qs hp hq (List.range 50) (fun i hi=>List.mem_range.1 hi)];congr 1;simp only[decide_eq_decide];constructor
 ·intro k;apply List.ext_getElem?;intro i;by_cases h:i<50
  ·exact k i (List.mem_range.2 h)
  ·rw[List.getElem?_eq_none (by omega),List.getElem?_eq_none (by omega)]
 ·intro e i _;rw[e]
theorem zkq{g:Nat}{t:TypeId}:∀(vs:List Value) (o:Nat) (cur:List Value) (w:World),w.heap[g]?=some (.cells cur.toArray t (0,0))->o+vs.length<=cur.length->(w.setCells g o vs).heap[g]?=some (.cells (splice cur o vs).toArray t (0,0))
 | [],o,cur,w,h,_=>by simpa[World.setCells,splice] using h| v :: r,o,cur,w,h,hl=>by rw[World.setCells];rw[List.length_cons]at hl;have h1:(w.setCell ⟨g,o,none⟩ v).heap[g]?=some (.cells (cur.set o v).toArray t (0,0)):=(by rw[heap_setCell_same _ g _ _ _ _ h];simp only[List.setIfInBounds_toArray]);rw[zkq r (o+1) (cur.set o v) _ h1 (by rw[List.length_set];omega)];have e:splice (cur.set o v) (o+1) r=splice cur o (v :: r):=(by unfold splice;rw[List.take_succ_eq_append_getElem (by rw[List.length_set];omega),List.getElem_set_self,List.take_set_of_le (nrf _),List.drop_set,if_pos (by omega),List.length_cons,List.append_assoc,show o+1+r.length=o+(r.length+1) by omega];rfl);rw[e]
theorem zji{g:Nat}:∀(vs:List Value) (o:Nat) (w:World),Only g w (w.setCells g o vs)
 | [],_,w=>Only.refl _ w| v :: r,o,w=>((Only.refl _ w).setCell (p:=⟨g,o,none⟩) rfl v).trans (zji r (o+1) _)
section
variable{w:World}{g:Nat}{ps:List (Int × Bool)}
theorem copyB(h:RowB w g ps)(ty:TypeId)(d s n c c':Nat)(x y:Addr)(hd:d<50->x=⟨g,d*2,none⟩)(hs:s<50->y=⟨g,s*2,none⟩)(hd50:d<=50)(hn:n=Nat.min (50-s) (50-d)):
 ∃w',(Builtin.copy_ #[149,149] ty #[.slice (some x) (50-d) c,.slice (some y) (50-s) c']).run Tryz.prog w=.ok (goInt n) w'/\RowB w' g (splice ps d ((ps.drop s).take n))/\Only g w w':=by
 have hl:=h.1;obtain⟨i0,hi,_,hz1,_⟩:=info_parts zhj;have hsz:(sizeOf 122).run Tryz.prog w=.ok 2 w:=by simp[sizeOf,typeInfo,hi,hz1]
 have hnn:n<=50-s/\n<=50-d:=by rw[hn];exact⟨Nat.min_le_left _ _,Nat.min_le_right _ _⟩
 have hlen:((ps.drop s).take n).length=n:=by rw[List.length_take,List.length_drop];omega
 obtain⟨cs,hcs⟩:∃cs,cs=zb3 ((ps.drop s).take n):=⟨_,rfl⟩;have hcl:cs.length=n*2:=by rw[hcs,zdd,hlen]
 have hload:(loadCells y (n*2)).run Tryz.prog w=.ok cs.toArray w:=by rw[<-hcl];refine run_loadCells_list w y cs (fun j v hv=>?_);have hj:j<n*2:=(by have:=(List.getElem?_eq_some_iff.1 hv).1;omega);rw[hs (by omega)];have e2:(⟨g,s*2,none⟩:Addr).add j=⟨g,s*2+j,none⟩:=(by unfold Addr.add;split<;>simp_all);rw[e2,cell_of_row w g _ _ _ _ h.2,List.getElem?_toArray];rw[hcs,<-zoc,<-zod,List.getElem?_take,if_pos hj,List.getElem?_drop]at hv;exact hv
 refine⟨w.setCells g (d*2) cs,?_,⟨by rw[length_splice _ _ _ (by rw[hlen];omega)];exact hl,?_⟩,zji _ _ _⟩
 ·have hst:(storeCells x cs 0).run Tryz.prog w=.ok () (w.setCells g (d*2) cs):=by
   by_cases h0:n=0
   ·have:cs=[]:=List.eq_nil_of_length_eq_zero (by omega);rw[this];rfl
   ·rw[hd (by omega)];have:=run_storeCells_cells (P:=Tryz.prog) g (d*2) cs 0 w (fun j hj=>by rw[Nat.add_zero,cell_of_row w g _ _ _ _ h.2,List.getElem?_toArray,List.getElem?_eq_getElem (by rw[zdd];omega)];rfl) (fun j hj=>h.fz _) (fun v hv=>zq6 _ v (by rw[hcs]at hv;exact hv));simpa using this
  simp[Builtin.copy_,run_underlying Tryz.underlying149,Builtin.lenOf,Builtin.firstCells,hsz,<-hn,hload,hst]
 ·have:=zkq cs (d*2) (zb3 ps) w h.2 (by rw[zdd];omega);rw[this,hcs,zq7]
theorem clearB(h:RowB w g ps)(ty:TypeId)(c:Nat):
 ∃w',(Builtin.clear_ #[149] ty #[.slice (some ⟨g,98,none⟩) 1 c]).run Tryz.prog w=.ok (.tuple #[]) w'/\RowB w' g (ps.set 49 (0,false))/\Only g w w':=by
 have hl:=h.1;refine⟨(w.setCell ⟨g,49*2,none⟩ (.int .i64 0)).setCell ⟨g,49*2+1,none⟩ (.bool false),?_,h.put 49 0 false,zo8 _ _⟩;have hst:=run_storeCells_cells (P:=Tryz.prog) g 98 [.int .i64 0,.bool false] 0 w (fun j hj=>by rw[Nat.add_zero,cell_of_row w g _ _ _ _ h.2,List.getElem?_toArray,List.getElem?_eq_getElem (by rw[zdd];simp at hj;omega)];rfl) (fun j hj=>h.fz _) (fun v hv=>by simp at hv;rcases hv with rfl|rfl<;>rfl);have hv:∀w,(zeroValue 122).run Tryz.prog w=.ok (.agg #[.int .i64 0,.bool false]) w:=Tryz.zeroValue122;have hzc:(Builtin.zeroCells (Value.agg #[.int .i64 0,.bool false]).cells 1).toList=[.int .i64 0,.bool false]:=by
  show (Builtin.zeroCells #[.int .i64 0,.bool false] 1).toList=_;simp only[Builtin.zeroCells];apply List.ext_getElem
  ·simp
  ·intro i h1 h2;match i,h2 with
   | 0,_=>simp| 1,_=>simp
 simp[Builtin.clear_,run_underlying Tryz.underlying149,hv,hzc,hst];rfl
end
def zaj(xs:List Int):List (Int × Bool):=xs.map (fun x=>(x,true)) ++ List.replicate (50-xs.length) (0,false)
theorem zbg{xs:List Int}(h:xs.length<=50):(zaj xs).length=50:=by unfold zaj;rw[List.length_append,List.length_map,List.length_replicate];omega
theorem zv9:zaj []=List.replicate 50 (0,false):=rfl
theorem zhk{xs:List Int}{i:Nat}(h:i<xs.length)(h':i<(zaj xs).length):(zaj xs)[i]=(xs[i],true):=by
 have e:(zaj xs)[i]?=some (xs[i],true):=by unfold zaj;rw[List.getElem?_append_left (by rw[List.length_map];exact h),List.getElem?_map,List.getElem?_eq_getElem h];rfl
 rw[List.getElem?_eq_getElem h']at e;exact osi e
theorem zh0{xs:List Int}{i:Nat}(h:xs.length<=i)(h':i<(zaj xs).length):(zaj xs)[i]=(0,false):=by
 have hl:i<50\/50<=i:=by omega
 have e:(zaj xs)[i]?=some (0,false):=by have h2:=h';unfold zaj at h2 ⊢;rw[List.length_append,List.length_map,List.length_replicate]at h2;rw[List.getElem?_append_right (by rw[List.length_map];exact h),List.length_map,List.getElem?_replicate,if_pos (by omega)]
 rw[List.getElem?_eq_getElem h']at e;exact osi e
def zmo(ps:List (Int × Bool)):List Int:=(ps.filter (·.2)).map (·.1)
theorem zh1(xs:List Int):zmo (zaj xs)=xs:=by unfold zmo zaj;rw[List.filter_append,List.map_append];have h1:(xs.map fun x=>(x,true)).filter (·.2)=xs.map fun x=>(x,true):=List.filter_eq_self.2 (fun p hp=>by obtain⟨x,_,rfl⟩:=List.mem_map.1 hp;rfl);have h2:(List.replicate (50-xs.length) ((0:Int),false)).filter (·.2)=[]:=List.filter_eq_nil_iff.2 (fun p hp=>by rw[List.eq_of_mem_replicate hp];decide);rw[h1,h2,List.map_map,List.map_nil,List.append_nil];exact List.map_id' xs
theorem zoe{xs ys:List Int}(h:zaj xs=zaj ys):xs=ys:=by rw[<-zh1 xs,h,zh1]
theorem zsy{ys:List Int}{y:Int}(h:ys.length<50):(zaj ys).set ys.length (y,true)=zaj (ys ++ [y]):=by unfold zaj;obtain⟨m,hm⟩:∃m,50-ys.length=m+1:=⟨50-ys.length-1,by omega⟩;rw[hm,List.length_append,List.length_singleton,show 50-(ys.length+1)=m by omega,List.map_append,List.replicate_succ,List.set_append_right _ _ (by rw[List.length_map];exact nrf _),List.length_map,Nat.sub_self,List.set_cons_zero,List.append_assoc];rfl
theorem zwa{xs:List Int}{k:Nat}{id:Int}(hk:k<=xs.length)(h:xs.length<50):(splice (zaj xs) (k+1) (((zaj xs).drop k).take (49-k))).set k (id,true)=zaj (xs.take k ++ [id] ++ xs.drop k):=by
 have hl:=zbg (xs:=xs) (by omega);have htl:(((zaj xs).drop k).take (49-k)).length=49-k:=by rw[List.length_take,List.length_drop,hl];omega
 have hdn:(zaj xs).drop (k+1+(49-k))=[]:=List.drop_eq_nil_of_le (by rw[hl];omega);unfold splice;rw[htl,hdn,List.append_nil,List.set_append_left _ _ (by rw[List.length_take,hl];omega),List.take_succ_eq_append_getElem (by rw[hl];omega),List.set_append_right _ _ (by rw[List.length_take];omega)];have e0:k-((zaj xs).take k).length=0:=by rw[List.length_take,hl];omega
 rw[e0,List.set_cons_zero];have ht:(zaj xs).take k=(xs.take k).map fun x=>(x,true):=by unfold zaj;rw[List.take_append_of_le_length (by rw[List.length_map];exact hk),List.map_take]
 have hd:(zaj xs).drop k=(xs.drop k).map (fun x=>(x,true)) ++ List.replicate (50-xs.length) (0,false):=by unfold zaj;rw[List.drop_append_of_le_length (by rw[List.length_map];exact hk),List.map_drop]
 obtain⟨m,hm⟩:∃m,50-xs.length=m+1:=⟨50-xs.length-1,by omega⟩;have hdt:((zaj xs).drop k).take (49-k)=(xs.drop k).map (fun x=>(x,true)) ++ List.replicate m (0,false):=by rw[hd,hm,List.replicate_succ',<-List.append_assoc,List.take_append_of_le_length (by rw[List.length_append,List.length_map,List.length_drop,List.length_replicate];omega),List.take_of_length_le (by rw[List.length_append,List.length_map,List.length_drop,List.length_replicate];omega)]
 rw[ht,hdt];unfold zaj;rw[show 50-(xs.take k ++ [id] ++ xs.drop k).length=m by rw[List.length_append,List.length_append,List.length_take,List.length_drop,List.length_singleton];omega];simp only[List.map_append,List.map_cons,List.map_nil,List.append_assoc,List.cons_append,List.nil_append]
theorem zwb{xs:List Int}{k:Nat}(hk:k<xs.length)(h:xs.length<=50):(splice (zaj xs) k (((zaj xs).drop (k+1)).take (49-k))).set 49 (0,false)=zaj (xs.take k ++ xs.drop (k+1)):=by
 have hl:=zbg (xs:=xs) h;have htk:((zaj xs).drop (k+1)).take (49-k)=(zaj xs).drop (k+1):=List.take_of_length_le (by rw[List.length_drop,hl];omega);have hdl:((zaj xs).drop (k+1)).length=49-k:=by rw[List.length_drop,hl];omega
 rw[htk];unfold splice;rw[hdl,show k+(49-k)=49 by omega];have e49:(zaj xs).drop 49=[(zaj xs)[49]'(by rw[hl];omega)]:=by rw[List.drop_eq_getElem_cons (by rw[hl];omega),List.drop_eq_nil_of_le (by rw[hl];omega)]
 rw[e49,<-List.append_assoc,List.set_append_right _ _ (by rw[List.length_append,List.length_take,hdl,hl];omega)];rw[show 49-((zaj xs).take k ++ (zaj xs).drop (k+1)).length=0 by rw[List.length_append,List.length_take,hdl,hl];omega,List.set_cons_zero];have ht:(zaj xs).take k=(xs.take k).map fun x=>(x,true):=by unfold zaj;rw[List.take_append_of_le_length (by rw[List.length_map];omega),List.map_take]
 have hd:(zaj xs).drop (k+1)=(xs.drop (k+1)).map (fun x=>(x,true)) ++ List.replicate (50-xs.length) (0,false):=by unfold zaj;rw[List.drop_append_of_le_length (by rw[List.length_map];omega),List.map_drop]
 rw[ht,hd];unfold zaj;rw[show 50-(xs.take k ++ xs.drop (k+1)).length=(50-xs.length)+1 by rw[List.length_append,List.length_take,List.length_drop];omega,List.replicate_succ'];simp only[List.map_append,List.append_assoc]
theorem z1z{xs:List Int}(h:MemTo xs xs.length):∀(d i:Nat) (hi:i+d+1<xs.length),xs[i]<xs[i+d+1]
 | 0,i,hi=>(h (i+1) hi hi).2 i (by omega) rfl| d+1,i,hi=>by have h1:=z1z h d i (by omega);have h2:=(h (i+d+1+1) (by omega) (by omega)).2 (i+d+1) (by omega) rfl;exact Int.lt_trans h1 h2
theorem zlo{xs:List Int}(h:MemTo xs xs.length){i j:Nat}(hij:i<j)(hj:j<xs.length):xs[i]<xs[j]:=by have:=z1z h (j-i-1) i (by omega);rw[show xs[i+(j-i-1)+1]'(by omega)=xs[j] by congr 1;omega]at this;exact this
def pB(id:Int)(p:Int × Bool):Bool:=!p.2 || decide (id<=p.1)
section
variable{xs:List Int}{id:Int}{k:Nat}
theorem zyq(hl:xs.length<=50)(hk:k<(zaj xs).length)(h1:pB id (zaj xs)[k]=true)(h2:∀m (hm:m<(zaj xs).length),m<k->pB id (zaj xs)[m]=false):k<=xs.length/\(∀j (hj:j<xs.length),j<k->xs[j]<id)/\(∀(h:k<xs.length),id<=xs[k]):=by
 have hlen:=zbg hl;have hkl:k<=xs.length:=by
  rcases Nat.lt_or_ge xs.length k with h|h
  ·have:=h2 xs.length (by omega) h;rw[zh0 (nrf _)]at this;cases this
  ·exact h
 refine⟨hkl,fun j hj hjk=>?_,fun h=>?_⟩
 ·have:=h2 j (by omega) hjk;rw[zhk hj]at this;simp[pB]at this;exact this
 ·rw[zhk h]at h1;simp[pB]at h1;exact h1
theorem zj6(hM:MemTo xs xs.length)(h1:∀j (hj:j<xs.length),j<k->xs[j]<id)(h2:∀(h:k<xs.length),id<=xs[k]):(zln id xs=true ↔ ∃h:k<xs.length,xs[k]=id):=by
 constructor
 ·intro h;obtain⟨j,hj,e⟩:=List.mem_iff_getElem.1 (of_decide_eq_true h);have hkj:k<=j:=by
   rcases Nat.lt_or_ge j k with h'|h'
   ·have:=h1 j hj h';omega
   ·exact h'
  refine⟨by omega,?_⟩;have ha:=h2 (by omega);rcases Nat.lt_or_ge k j with h'|h'
  ·have:=zlo hM h' hj;omega
  ·obtain rfl:k=j:=(by omega);exact e
 ·rintro⟨h,e⟩;exact decide_eq_true (by rw[<-e];exact List.getElem_mem h)
theorem zyr(hM:MemTo xs xs.length)(hk:k<xs.length)(he:xs[k]=id):zfr xs id=xs.take k ++ xs.drop (k+1):=by
 have hx:xs=xs.take k ++ (id :: xs.drop (k+1)):=by rw[<-he,<-List.drop_eq_getElem_cons hk,List.take_append_drop]
 have h1:(xs.take k).filter (fun y=>!decide (y=id))=xs.take k:=List.filter_eq_self.2 (fun y hy=>by obtain⟨j,hj,e⟩:=List.mem_iff_getElem.1 hy;rw[List.length_take]at hj;rw[List.getElem_take]at e;have:=zlo hM (show j<k by omega) hk;simp;omega);have h2:(xs.drop (k+1)).filter (fun y=>!decide (y=id))=xs.drop (k+1):=List.filter_eq_self.2 (fun y hy=>by obtain⟨j,hj,e⟩:=List.mem_iff_getElem.1 hy;rw[List.length_drop]at hj;rw[List.getElem_drop]at e;have:=zlo hM (show k<k+1+j by omega) (by omega);simp;omega);unfold zfr;conv=>lhs;rw[hx]
 rw[List.filter_append,List.filter_cons,h1,h2];simp
end
end Go.Proofs.YthiojkjcmhojoaaGreat
