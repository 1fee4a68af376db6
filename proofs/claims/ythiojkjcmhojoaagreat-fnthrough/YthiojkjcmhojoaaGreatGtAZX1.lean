import Derived.Test.YthiojkjcmhojoaaGreatGtAZ
namespace Go.Proofs.YthiojkjcmhojoaaGreat
open Go.ChangeShapes Go.WideShapes Go.ChangeAt Go.RowKit
set_option maxRecDepth 100000
set_option linter.all false
theorem z0s{w:World}{lo n:Nat}{e:TypeId}{v:Value}{xs:List Value}(h:w.ownsRow lo e 1 v n xs)(hn:n≠0):v.ownBlock=elB v:=by obtain⟨a,c,rfl⟩:=za2 h;obtain⟨m,rfl⟩:∃m,n=m+1:=⟨n-1,by omega⟩;cases a<;>rfl
theorem zhu{P:Program}(w:World){o:Oper}{a:Act}{K:Act->World->Prop}{Q:Exit->Act->World->Prop}(s x:Operand)(t:TypeId)(ho:o.op=.call { callee:=.builtin .append,args:=#[s,x],argTypes:=#[t,t] })(lo:Nat)(e:TypeId)(i:TypeInfo)(z:Value)(ht:P.underlying t=some (.slice e))(hi:P.info? e=some i)(hz:i.zero=some z)(hsize:i.size=1)(hby:i.bytes=8)(hzs:z.cells.size=1)(v:Value)(xs:List Int)(hs:a.eval s=v)(hr:(xs=[]/\∃a,v=.slice a 0 0)\/(xs≠[]/\w.ownsRow lo e 1 v xs.length (zbc xs)))(ad:Addr)(c:Nat)(y:Int)(hx:a.eval x=.slice (some ad) 1 c)(hc:w.cell? (ad.add 0)=some (.int .i64 y))(hn:xs.length<=1048576)(hlo:lo<=w.heap.size)(h:∀v' w',w'.ownsRow 0 e 1 v' (xs.length+1) (zbc xs ++ [.int .i64 y])->OnlyP (fun b=>elB v=some b) w w'->(∀b,elB v'=some b->elB v=some b\/w.heap.size<=b)->K (a.put o.dst v') w'):o.wp P a w K Q:=by
 have hnews:∀j u,[Value.int .i64 y][j]?=some u->w.cell? (ad.add j)=some u:=fun j u hu=>by
  cases j with
  | zero=>rw[hc];exact hu| succ j=>cases hu
 have h1:∀u ∈ [Value.int .i64 y],u.oneCell'=true:=fun u hu=>by rw[List.mem_singleton]at hu;rw[hu];rfl
 rcases hr with⟨rfl,a0,rfl⟩|⟨hne,own⟩
 ·obtain⟨v',w',hrun,k1,k2,k3⟩:=zho (P:=P) w w.heap.size t o.type e i z 1 8 ht hi hz hsize hby hzs (by decide) (.slice none 0 0) 0 [] ⟨rfl,.inl ⟨rfl,rfl⟩⟩ ad 1 c [.int .i64 y] rfl hnews h1 (by unfold maxLen;omega) (by omega) (nrf _) (by decide);have hrun':(Builtin.append_ #[t,t] o.type #[.slice a0 0 0,.slice (some ad) 1 c]).run P w=.ok v' w':=by
   cases a0 with
   | none=>exact hrun| some b=>rw[zh4 t o.type e i ht hi hby b ad 1 c (by decide) (by decide)];exact hrun
  have q:=h v' w' (zc0 k1 (Nat.zero_le _)) ⟨k2.os,k2.tape,k2.output,k2.size,fun k hk _=>k2.block k hk (by simp[Value.ownBlock])⟩ (fun b e1=>by
   have e2:=zj4 k1 e1;rcases k3 with e3|e3
   ·rw[e2]at e3;cases e3
   ·rw[e2]at e3;exact .inr (Nat.le_of_eq (osi e3).symm))
  unfold Oper.wp execOp;simp only[ho,resolve,invoke,builtin,Sem.run_bind,Sem.run_pure,Result.andThen_ok,List.map_toArray,List.map_cons,List.map_nil,hs,hx,hrun'];exact q
 ·have hl0:xs.length≠0:=fun e=>hne (List.eq_nil_of_length_eq_zero e);have ho1:=z0s own hl0;refine zc5 w s x t ho lo e i z 1 8 ht hi hz hsize hby hzs (by decide) v xs.length (zbc xs) hs own ad 1 c [.int .i64 y] hx rfl hnews h1 (by unfold maxLen;omega) (by omega) hlo (by decide) (fun v' w' k1 k2 k3=>?_);refine h v' w' (zc0 k1 (Nat.zero_le _)) ⟨k2.os,k2.tape,k2.output,k2.size,fun k hk hq=>k2.block k hk (fun e1=>hq (by rw[<-ho1,<-e1]))⟩ (fun b e1=>?_);have e2:=zj4 k1 e1;rcases k3 with e3|e3
  ·rw[e2,ho1]at e3;exact .inl e3.symm
  ·rw[e2]at e3;exact .inr (Nat.le_of_eq (osi e3).symm)
theorem KO.putX{w w':World}{lo hi hi' g:Nat}{vs:List Value}{ks:List Kn}(h:KO w lo hi g ks.length vs ks){i:Nat}(hi1:i<ks.length)(c:Kn){v:Value}(o:OnlyP (fun b=>b=g\/vs[i]?.bind elB=some b) w w')(hc:∀j u,(c.cs ++ [v])[j]?=some u->w'.cell? ⟨g,i*14+j,none⟩=some u)(hs:∀j,j<i*14\/i*14+14<=j->w'.cell? ⟨g,j,none⟩=w.cell? ⟨g,j,none⟩)(hf:∀j,w'.frozen? ⟨g,j,none⟩=w.frozen? ⟨g,j,none⟩)(hv:IO w' lo hi' v c.xs)(hg:elB v≠some g)(hn:∀j (hj:j<vs.length),j≠i->∀b,elB v=some b->elB vs[j]≠some b)(h1:hi<=hi')(h2:hi'<=w'.heap.size):
 KO w' lo hi' g (ks.set i c).length (vs.set i v) (ks.set i c):=by
 have zs:=o.size;have hl:=h.len;have hi2:i<vs.length:=by omega
 have old:∀b,vs[i]?.bind elB=some b->elB vs[i]=some b:=fun b e=>by rw[List.getElem?_eq_getElem hi2]at e;exact e
 have atV:∀j (hj:j<(vs.set i v).length),(j=i/\(vs.set i v)[j]=v)\/(j≠i/\∃hj':j<vs.length,(vs.set i v)[j]=vs[j]):=fun j hj=>by
  rw[List.getElem_set];rw[List.length_set]at hj;by_cases e:i=j
  ·exact .inl ⟨e.symm,if_pos e⟩
  ·exact .inr ⟨fun e'=>e e'.symm,hj,if_neg e⟩
 have atK:∀j (hj:j<(ks.set i c).length),(j=i/\(ks.set i c)[j]=c)\/(j≠i/\∃hj':j<ks.length,(ks.set i c)[j]=ks[j]):=fun j hj=>by
  rw[List.getElem_set];rw[List.length_set]at hj;by_cases e:i=j
  ·exact .inl ⟨e.symm,if_pos e⟩
  ·exact .inr ⟨fun e'=>e e'.symm,hj,if_neg e⟩
 refine⟨h.g0,nlt h.g1 h1,h2,by rw[List.length_set,List.length_set,hl],nrf _,fun j hj=>?_,fun j hk hj=>?_,fun j hk hj=>?_,fun j hj=>?_,fun j k hj hk hne b hb=>?_⟩
 ·rw[List.length_set]at hj;obtain⟨⟨z,hz⟩,hfz⟩:=h.any j hj;refine⟨?_,(hf _).trans hfz⟩;by_cases e:j<i*14\/i*14+14<=j
  ·exact⟨z,(hs j e).trans hz⟩
  ·obtain⟨u,hu⟩:∃u,(c.cs ++ [v])[j-i*14]?=some u:=⟨_,List.getElem?_eq_getElem (by show _<14;omega)⟩;have:=hc (j-i*14) u hu;rw[show i*14+(j-i*14)=j by omega]at this;exact⟨u,this⟩
 ·rcases atK j hk with⟨e,e1⟩|⟨e,hk',e1⟩
  ·rcases atV j hj with⟨_,e2⟩|⟨e',_⟩
   ·rw[e1,e2,e];exact⟨fun m u hu=>hc m u (by rw[List.getElem?_append_left (List.getElem?_eq_some_iff.1 hu).1];exact hu),hc 13 v rfl⟩
   ·exact absurd e e'
  ·rcases atV j hj with⟨e',_⟩|⟨_,hj',e2⟩
   ·exact absurd e' e
   ·rw[e1,e2];obtain⟨c0,c1⟩:=h.got j hk' hj';exact⟨fun m u hu=>(hs _ (by have:=(List.getElem?_eq_some_iff.1 hu).1;rw[Kn.len]at this;omega)).trans (c0 m u hu),(hs _ (by omega)).trans c1⟩
 ·rcases atK j hk with⟨e,e1⟩|⟨e,hk',e1⟩
  ·rcases atV j hj with⟨_,e2⟩|⟨e',_⟩
   ·rw[e1,e2];exact hv
   ·exact absurd e e'
  ·rcases atV j hj with⟨e',_⟩|⟨_,hj',e2⟩
   ·exact absurd e' e
   ·rw[e1,e2];have q:=(h.own j hk' hj').wider (nrf _) h1;exact q.same zs (fun b e3=>o.block b (q.el e3).2.2 (fun r=>r.elim (fun e4=>h.far j hj' (by rw[e3,e4])) (fun e4=>h.apart j i hj' hi2 e b e3 (old b e4))))
 ·rcases atV j hj with⟨_,e2⟩|⟨_,hj',e2⟩
  ·rw[e2];exact hg
  ·rw[e2];exact h.far j hj'
 ·rcases atV j hj with⟨e,e2⟩|⟨e,hj',e2⟩
  ·rw[e2]at hb;rcases atV k hk with⟨e',_⟩|⟨e',hk',e3⟩
   ·exact absurd (e.trans e'.symm) hne
   ·rw[e3];exact hn k hk' e' b hb
  ·rw[e2]at hb;rcases atV k hk with⟨e',e3⟩|⟨e',hk',e3⟩
   ·rw[e3];intro e4;exact hn j hj' e b e4 hb
   ·rw[e3];exact h.apart j k hj' hk' hne b hb
section
variable {w w':World} {lo hi g cap:Nat} {sT sO sP vL vK:Value} {uL uK:List Value} {T O P:List Q4} {L:List F8} {K:List Kn}
theorem EOwn.putX{hi' i:Nat}{c:Kn}{v:Value}(h:EOwn w lo hi sT sO sP vL uL (.slice (some ⟨g,0,none⟩) K.length cap) uK T O P L K)(hi1:i<K.length)(o:OnlyP (fun b=>b=g\/uK[i]?.bind elB=some b) w w')(hc:∀j u,(c.cs ++ [v])[j]?=some u->w'.cell? ⟨g,i*14+j,none⟩=some u)(hs:∀j,j<i*14\/i*14+14<=j->w'.cell? ⟨g,j,none⟩=w.cell? ⟨g,j,none⟩)(hf:∀j,w'.frozen? ⟨g,j,none⟩=w.frozen? ⟨g,j,none⟩)(hv:IO w' lo hi' v c.xs)(hn:∀b,elB v=some b->uK[i]?.bind elB=some b\/¬inE sT sO sP vL uL (.slice (some ⟨g,0,none⟩) K.length cap) uK b)(h1:hi<=hi')(h2:hi'<=w'.heap.size)(hr:Room w' v):
 EOwn w' lo hi' sT sO sP vL uL (.slice (some ⟨g,0,none⟩) (K.set i c).length cap) (uK.set i v) T O P L (K.set i c):=by
 obtain⟨hcap,ko,hl⟩:=h.ko (by omega);have hi2:i<uK.length:=by omega
 have hne:uK≠[]:=fun e=>by rw[e]at hi2;cases hi2
 have hin:inV (.slice (some ⟨g,0,none⟩) K.length cap) uK g:=⟨hne,.inl rfl⟩;have old:∀b,uK[i]?.bind elB=some b->elB uK[i]=some b:=fun b e=>by rw[List.getElem?_eq_getElem hi2]at e;exact e
 have mem:∀j (hj:j<uK.length) b,elB uK[j]=some b->inV (.slice (some ⟨g,0,none⟩) K.length cap) uK b:=fun j hj b e=>⟨hne,.inr ⟨_,List.getElem_mem hj,e⟩⟩;have pin:∀b,(b=g\/uK[i]?.bind elB=some b)->inV (.slice (some ⟨g,0,none⟩) K.length cap) uK b:=fun b e=>e.elim (fun e=>by rw[e];exact hin) (fun e=>mem i hi2 b (old b e));have hg:elB v≠some g:=fun e=>by
  rcases hn g e with q|q
  ·exact ko.far i hi2 (old g q)
  ·exact q (.inr (.inr hin))
 have hn':∀j (hj:j<uK.length),j≠i->∀b,elB v=some b->elB uK[j]≠some b:=fun j hj hne b e e'=>by
  rcases hn b e with q|q
  ·exact ko.apart i j hi2 hj (fun e=>hne e.symm) b (old b q) e'
  ·exact q (.inr (.inr (mem j hj b e')))
 have k':=ko.putX hi1 c o hc hs hf hv hg hn' h1 h2;have zs:=o.size;refine⟨h.l.onlyP o (fun b e e'=>h.d2 b (.inl e) (pin b e')) (fun b e e'=>h.d2 b (.inr (.inl e)) (pin b e')) (fun b e e'=>h.d2 b (.inr (.inr e)) (pin b e')),fun b hb=>nlt (h.lb b hb) h1,(h.p.onlyP o (fun b e e'=>h.d3 b e (pin b e'))).wider (nrf _) h1 h2,.inl ⟨g,cap,rfl,by rw[List.length_set];exact hcap,k'⟩,h.d1,fun b hb hv'=>?_,fun b hb hv'=>?_,h2,fun u hu=>?_⟩
 ·rcases zgq (n:=K.length) hv' with q|q
  ·exact h.d2 b hb q
  ·rcases hn b q with r|r
   ·exact h.d2 b hb (mem i hi2 b (old b r))
   ·exact r (.inl hb)
 ·rcases zgq (n:=K.length) hv' with q|q
  ·exact h.d3 b hb q
  ·rcases hn b q with r|r
   ·exact h.d3 b hb (mem i hi2 b (old b r))
   ·exact r (.inr (.inl hb))
 ·obtain⟨j,hj,rfl⟩:=List.mem_iff_getElem.1 hu;rw[List.length_set]at hj;rw[List.getElem_set];by_cases e:i=j
  ·rw[if_pos e];exact hr
  ·rw[if_neg e];exact (h.rm _ (List.getElem_mem hj)).same (fun b e1 hb=>o.block b hb (fun r=>r.elim (fun e2=>ko.far j hj (by rw[e1,e2])) (fun e2=>ko.apart j i hj hi2 (fun q=>e q.symm) b e1 (old b e2))))
theorem EOwn.app{w1:World}{i:Nat}{v:Value}{y:Int}(h:EOwn w lo hi sT sO sP vL uL (.slice (some ⟨g,0,none⟩) K.length cap) uK T O P L K)(hi1:i<K.length)(hu:∀(h2:i<uK.length),OnlyP (fun b=>elB uK[i]=some b) w w1/\∀b,elB v=some b->elB uK[i]=some b\/w.heap.size<=b)(own:w1.ownsRow 0 2 1 v (K[i].xs.length+1) (zbc K[i].xs ++ [.int .i64 y])):
 EOwn (w1.setCell ⟨g,i*14+13,none⟩ v) lo w1.heap.size sT sO sP vL uL (.slice (some ⟨g,0,none⟩) (K.set i (K[i].more y)).length cap) (uK.set i v) T O P L (K.set i (K[i].more y)):=by
 obtain⟨hcap,ko,hl⟩:=h.ko (by omega);have hi2:i<uK.length:=by omega
 obtain⟨o1,hw⟩:=hu hi2;obtain⟨c0,c1⟩:=ko.got i hi1 hi2;have e0:uK[i]?.bind elB=elB uK[i]:=by rw[List.getElem?_eq_getElem hi2];rfl
 have hgw:g<w.heap.size:=nlt ko.g1 ko.top;have ht:=h.top;have o1s:=o1.size;have bg:w1.heap[g]?=w.heap[g]?:=o1.block g hgw (ko.far i hi2);have cg:∀j,w1.cell? ⟨g,j,none⟩=w.cell? ⟨g,j,none⟩:=fun j=>World.cell?_of_block bg;have fg:∀j,w1.frozen? ⟨g,j,none⟩=w.frozen? ⟨g,j,none⟩:=fun j=>World.frozen?_of_block bg;have hm:(K[i].more y).xs=K[i].xs ++ [y]:=rfl;have own':w1.ownsRow 0 2 1 v (K[i].more y).xs.length (zbc (K[i].more y).xs):=by rw[hm,List.length_append,zbx];exact own
 have hgv:∀b,elB v=some b->lo<=b/\b≠g:=fun b e=>by
  rcases hw b e with q|q
  ·exact⟨((ko.own i hi1 hi2).el q).1,fun e2=>ko.far i hi2 (by rw[q,e2])⟩
  ·have:=ko.g0;exact⟨by have:=ko.g1;omega,by omega⟩
 have os:Only g w1 (w1.setCell ⟨g,i*14+13,none⟩ v):=(Only.refl _ w1).setCell (p:=⟨g,i*14+13,none⟩) rfl v;have io1:IO w1 lo w1.heap.size v (K[i].more y).xs:=by
  obtain⟨a,c,e,hc,r⟩:=(zde own').io;refine⟨a,c,e,hc,?_⟩;rcases r with r|⟨g',off,e1,k1,k2,k3⟩
  ·exact .inl r
  ·refine .inr ⟨g',off,e1,(hgv g' ?_).1,k2,k3⟩;rw[e,e1,hm,List.length_append];rfl
 have io2:=io1.same os.size (fun b e=>os.block b (io1.el e).2.2 (hgv b e).2);have rm1:Room w1 v:=zou own' (fun e=>by rw[hm,List.length_append]at e;cases e);refine h.putX (c:=K[i].more y) (v:=v) hi1 ?_ (fun j u hj=>?_) (fun j hj=>(zak (by omega)).trans (cg j)) (fun j=>(World.frozen?_setCell _ _ _ _).trans (fg j)) io2 (fun b e=>?_) (by omega) os.size (rm1.same (fun b e hb=>os.block b hb (hgv b e).2))
 ·rw[e0];have q:OnlyP (fun b=>b=g\/elB uK[i]=some b) w w1:=o1.weak (fun b e=>.inr e);exact q.two (OnlyP.ofOnly os (.inl rfl))
 ·have hj14:j<14:=(List.getElem?_eq_some_iff.1 hj).1;by_cases a:j<13
  ·rw[List.getElem?_append_left (by rw[Kn.len];exact a)]at hj;exact (zak (by omega)).trans ((cg _).trans (c0 j u hj))
  ·have e:j=13:=(by omega);subst e;have:v=u:=osi hj;rw[<-this];obtain⟨⟨z,hz⟩,_⟩:=ko.any (i*14+13) (by omega);exact zcq _ ((cg _).trans hz)
 ·rw[e0];rcases hw b e with q|q
  ·exact .inl q
  ·exact .inr (fun hb=>by have:=(h.bd hb).2;omega)
end
end Go.Proofs.YthiojkjcmhojoaaGreat
