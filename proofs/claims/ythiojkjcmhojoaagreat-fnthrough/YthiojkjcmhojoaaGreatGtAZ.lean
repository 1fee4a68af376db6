import Derived.Deep.CutBlock
import Derived.Test.YthiojkjcmhojoaaGreatGtAYX1
namespace Go.Proofs.YthiojkjcmhojoaaGreat
set_option maxHeartbeats 16000000
open Go.ChangeShapes Go.WideShapes Go.ChangeAt Go.RowKit
set_option maxRecDepth 100000
set_option linter.all false
structure LRow (x:World) (lo g gT dT gO dO gP dP:Nat) (T O P:List Q4):Prop where
 t:x.ownsRow lo 110 4 (.slice (some ⟨gT,0,none⟩) T.length dT) T.length (za5 T)
 o:x.ownsRow lo 53 4 (.slice (some ⟨gO,0,none⟩) O.length dO) O.length (za5 O)
 p:x.ownsRow lo 53 4 (.slice (some ⟨gP,0,none⟩) P.length dP) P.length (za5 P)
 op:gO≠gP
 tg:gT≠g
 og:gO≠g
 pg:gP≠g
section
variable{w w':World}{base e s n g h c:Nat}{xs:List Value}
theorem zcs(hr:w.ownsRow base e s (.slice (some ⟨h,0,none⟩) n c) n xs)(o:Only g w w')(hg:g<base):w'.ownsRow base e s (.slice (some ⟨h,0,none⟩) n c) n xs :=
 hr.kept (row:=some g) ⟨o.os,o.tape,o.output,o.size,fun k hk hn=>o.block k hk (fun e=>hn (by rw[e]))⟩ (.inr (fun e=>by have h1:=(hr.lt h rfl).1;have h2:h=g:=osi e;omega))
theorem zpc(hr:w.ownsRow base e s (.slice (some ⟨h,0,none⟩) n c) n xs)(o:OnlyO (some g) w w')(hg:h≠g):w'.ownsRow base e s (.slice (some ⟨h,0,none⟩) n c) n xs :=
 hr.kept (row:=some g) ⟨o.os,o.tape,o.output,o.size,fun k hk hn=>o.block k hk (fun e=>hn e.symm)⟩ (.inr (fun e=>hg (osi e)))
end
theorem LRow.onlyO{x x':World}{lo g gT dT gO dO gP dP:Nat}{T O P:List Q4}(h:LRow x lo g gT dT gO dO gP dP T O P)(o:OnlyO (some g) x x'):LRow x' lo g gT dT gO dO gP dP T O P :=
 ⟨zpc h.t o h.tg,zpc h.o o h.og,zpc h.p o h.pg,h.op,h.tg,h.og,h.pg⟩
theorem LRow.lv{x:World}{lo g gT dT gO dO gP dP:Nat}{T O P:List Q4}(h:LRow x lo g gT dT gO dO gP dP T O P):LV x lo (.slice (some ⟨gT,0,none⟩) T.length dT) (.slice (some ⟨gO,0,none⟩) O.length dO) (.slice (some ⟨gP,0,none⟩) P.length dP) T O P :=
 ⟨zek h.t,zek h.o,zek h.p,fun b e e'=>zbv h.t h.o (by decide) b (za6 e) (za6 e'),fun b e e'=>zbv h.t h.p (by decide) b (za6 e) (za6 e'),fun b e e'=>h.op (by have h1:gO=b:=osi (za6 e);have h2:gP=b:=osi (za6 e');rw[h1,h2])⟩
theorem CpK.only1{w w':World}{lo g:Nat}{sK:Value}{G:List G14}{K:List Kn}(h:CpK w lo sK G K)(o:Only g w w')(hg:g<lo):CpK w' lo sK G K:=by
 have keep:∀{e:TypeId} {s n:Nat} {v:Value} {xs:List Value},w.ownsRow lo e s v n xs->w'.ownsRow lo e s v n xs:=fun {e s n v xs} hr=>hr.kept (row:=some g) ⟨o.os,o.tape,o.output,o.size,fun k hk hn=>o.block k hk (fun e=>hn (by rw[e]))⟩ (by
  cases hob:v.ownBlock with
  | none=>exact .inl rfl| some q=>exact .inr (fun e=>by have h1:=(hr.lt q hob).1;have h2:=osi e;omega))
 exact⟨keep h.row,h.fst,fun i h1=>keep (h.ints i h1),fun i k b e=>⟨nlt (h.sep i k b e).1 o.size,(h.sep i k b e).2⟩,h.z⟩
theorem CpK.rm{w:World}{lo n c kl kh:Nat}{a:Option Addr}{G:List G14}{K:List Kn}{uK:List Value}(ck:CpK w lo (.slice a n c) G K)(hn:n=K.length)(kx:KX w kl kh (.slice a n c) uK K):∀u ∈ uK,Room w u:=fun u hu=>by
 subst hn;rcases kx with⟨g,cap,e,hc,f⟩|⟨_,rfl,_⟩
 ·injection e with e1 _ e3;subst e1 e3;obtain⟨i,hi,rfl⟩:=List.mem_iff_getElem.1 hu;have hk:i<K.length:=(by rw[<-f.len];exact hi);have hG:i<G.length:=(by rw[ck.len];exact hk);have h1:=(f.got i hk hi).2;have h2:=(ck.ko.got i hk (by rw[List.length_map];exact hG)).2;rw[h1,List.getElem_map]at h2;rw[osi h2];exact zou (ck.ints i hG) (fun e=>ck.z i hG (List.eq_nil_of_length_eq_zero e))
 ·cases hu
def CpEng(w:World)(now nx:Int)(T O P:List Q4)(L:List F8)(K:List Kn)(e:Ending)(w':World):Prop:=∃aT dT aO dO aP dP aL dL aK dK GK lh ph,e=.returned (zcf now aT T.length dT aO O.length dO aP P.length dP aL L.length dL aK K.length dK nx)/\LV w' w.heap.size (.slice aT T.length dT) (.slice aO O.length dO) (.slice aP P.length dP) T O P/\(∀b,inL (.slice aT T.length dT) (.slice aO O.length dO) (.slice aP P.length dP) b->b<lh)/\TV w' lh ph (.slice aL L.length dL) L/\CpK w' ph (.slice aK K.length dK) GK K/\(w.heap.size<=lh/\lh<=ph/\ph<=w'.heap.size)/\Bw w w'
theorem zcw{w:World}(now nx:Int){aT aO aP aL aK:Option Addr}(cT cO cP cL cK:Nat){T O P:List Q4}{L:List F8}{K:List Kn}(hT:Qw w aT T)(hO:Qw w aO O)(hP:Qw w aP P)(hL:Fw w aL L)(hK:Kw w aK K)(nT:1<=T.length/\T.length<=30)(nO:1<=O.length/\O.length<=30)(nP:1<=P.length/\P.length<=30)(mL:L.length<=1048576)(sL:∀f ∈ L,f.2.2.length<=1048576)(mK:K.length<=1048576)(sK:∀c ∈ K,c.xs.length<=1048576):
 Calls Tryz.prog 52 #[zcf now aT T.length cT aO O.length cO aP P.length cP aL L.length cL aK K.length cK nx] w (CpEng w now nx T O P L K):=by
 obtain⟨i1,hj,hy0,hy1,hy2⟩:=info_parts zjb;obtain⟨i0,hi,hz0,hz1,hz2⟩:=info_parts zeo;obtain⟨i2,hi2,hq0,hq1,hq2⟩:=info_parts zhh;obtain⟨v,hv,nb,L0,L1⟩:=preE w 31 now aT T.length cT aO O.length cO aP P.length cP aL L.length cL aK K.length cK nx;go_enter Tryz.func52,Tryz.ntmps52;go_upto_region 1 with (fail);rw[<-hv];clear hv;have HS:Hid (∀x,Bw v x->x.cell? ⟨w.heap.size,0,none⟩=some (.int .i64 now)/\x.cell? ⟨w.heap.size,1,none⟩=some (.slice aT T.length cT)/\x.cell? ⟨w.heap.size,2,none⟩=some (.slice aO O.length cO)/\x.cell? ⟨w.heap.size,3,none⟩=some (.slice aP P.length cP)/\x.cell? ⟨w.heap.size,6,none⟩=some (.int .i64 nx)):=fun x hx=>⟨(L0.next hx).cell 0 _ rfl,(L0.next hx).cell 1 _ rfl,(L0.next hx).cell 2 _ rfl,(L0.next hx).cell 3 _ rfl,(L0.next hx).cell 6 _ rfl⟩;go_cut [3] from 7 to 14 (fun s3 x=>∃g gT dT gO dO gP dP,s3=.pointer (some ⟨g,0,none⟩)/\Lay x g [.int .i64 now,.slice (some ⟨gT,0,none⟩) T.length dT,.slice (some ⟨gO,0,none⟩) O.length dO,.slice (some ⟨gP,0,none⟩) P.length dP,.slice none 0 0,.slice none 0 0,.int .i64 nx]/\v.heap.size<=g/\LRow x v.heap.size g gT dT gO dO gP dP T O P/\Bw v x);case first =>
  refine zcj HS (brf _ _).drew fun hS=>?_;refine zac 0 rfl ?_;refine zac 1 rfl ?_;refine zac 2 rfl ?_;refine zac 3 rfl ?_;refine zac 5 rfl ?_;refine zac 6 rfl ?_;refine wpAnyH_ready (rs:=[4,8]) (by kernel_rfl) (by simp) (AllReadyH.cons rfl (fun Kr hKr=>?_) (AllReadyH.cons rfl (fun Kr hKr=>?_) AllReadyH.nil))
  ·go_simp;refine (zja cT cO cP (hT.here nb.drew) (hO.here nb.drew) (hP.here nb.drew) nT nO nP).mono ?_;rintro e u1 ⟨gT,dT,gO,dO,gP,dP,rfl,rT,rO,rP,hne,hb1⟩;have hb1:=za8 hb1;have hS1:=HS.out _ hb1;refine hKr.out _ _ ‹_› fun _=>?_;(try simp only[nrm]);refine zac 7 rfl ?_;refine zci 8 rfl fun Kr hKr=>?_;go_simp;refine hKr.out _ _ (HS.out _ (zaa hb1 (zad _ _))) (fun hS=>?_);(try simp only[nrm]);refine zci 9 rfl fun Kr hKr=>?_;go_simp;refine hKr.out _ _ (HS.out _ (zaa hb1 (zad _ _))) (fun hS=>?_);(try simp only[nrm]);refine wpAnyH_done (by kernel_rfl) ?_ _;(repeat go_step);go_meet;have zA:=hb1.size;exact⟨u1.heap.size,gT,dT,gO,dO,gP,dP,rfl,zbs [.int .i64 now,.slice (some ⟨gT,0,none⟩) T.length dT,.slice (some ⟨gO,0,none⟩) O.length dO,.slice (some ⟨gP,0,none⟩) P.length dP,.slice none 0 0,.slice none 0 0,.int .i64 nx] _ rfl,zA,⟨zbd rT (zad _ _),zbd rO (zad _ _),zbd rP (zad _ _),hne,(by have:=(rT.lt gT rfl).2;omega),(by have:=(rO.lt gO rfl).2;omega),(by have:=(rP.lt gP rfl).2;omega)⟩,zaa hb1 (zad _ _)⟩
  ·go_simp;refine hKr.out _ _ (HS.out _ (((brf _ v).drew).alloc (nrf _) _)) (fun hS=>?_);(try simp only[nrm]);refine zci 4 rfl fun Kr hKr=>?_;go_simp;refine (zja cT cO cP (hT.here (nb.drew.alloc nb.size _)) (hO.here (nb.drew.alloc nb.size _)) (hP.here (nb.drew.alloc nb.size _)) nT nO nP).mono ?_;rintro e u1 ⟨gT,dT,gO,dO,gP,dP,rfl,rT,rO,rP,hne,hb1⟩;have Y1:=(zbs (u:=v.drew) [.int .i64 0,.slice none 0 0,.slice none 0 0,.slice none 0 0,.slice none 0 0,.slice none 0 0,.int .i64 0] 31 rfl).next hb1;have Y1:Lay u1 v.heap.size [.int .i64 0,.slice none 0 0,.slice none 0 0,.slice none 0 0,.slice none 0 0,.slice none 0 0,.int .i64 0]:=Y1;obtain⟨q0,q1,q2,q3,q4,q5,q6⟩:=Y1.c7;have qf:∀o:Nat,u1.frozen? ⟨v.heap.size,o,none⟩=false:=Y1.free;have hbv:Bw v u1:=zaa (((brf _ v).drew).alloc (nrf _) _) hb1;have hS1:=HS.out _ hbv;refine hKr.out _ _ ‹_› fun _=>?_;(try simp only[nrm]);refine zac 7 rfl ?_;refine zci 9 rfl fun Kr hKr=>?_;go_simp;obtain⟨yF,hu',oyF,YF⟩:=stE (b:=v.heap.size) Y1 now (some ⟨gT,0,none⟩) T.length dT (some ⟨gO,0,none⟩) O.length dO (some ⟨gP,0,none⟩) P.length dP none 0 0 none 0 0 nx;rw[hu'];clear hu';have bF:Bw v yF:=hbv.trans (oyF.below (nrf _) hbv.size);have hzz:v.heap.size+1<=(v.drew.alloc (.cells #[.int .i64 0,.slice none 0 0,.slice none 0 0,.slice none 0 0,.slice none 0 0,.slice none 0 0,.int .i64 0] 31)).heap.size:=(by simp);refine hKr.out _ _ (HS.out _ bF) (fun hS=>?_);(try simp only[nrm]);refine wpAnyH_done (by kernel_rfl) ?_ _;(repeat go_step);go_meet;exact⟨v.heap.size,gT,dT,gO,dO,gP,dP,rfl,YF,nrf _,⟨zc0 (zcs rT oyF (by omega)) (by omega),zc0 (zcs rO oyF (by omega)) (by omega),zc0 (zcs rP oyF (by omega)) (by omega),hne,(by have:=(rT.lt gT rfl).1;omega),(by have:=(rO.lt gO rfl).1;omega),(by have:=(rP.lt gP rfl).1;omega)⟩,bF⟩
 case rest =>
 obtain⟨g,gT,dT,gO,dO,gP,dP,rfl,LG,hg0,LRX,bvx⟩:=hcut;clear HS;have zv:=nb.size;have zc:=bvx.size;have hgc:=LG.lt;have L0c:=L0.next bvx;have L1c:=L1.next bvx;have bwc:=zaa nb bvx;have hw0:w.heap.size<v.heap.size:=L0.lt;have hw1:w.heap.size+1<v.heap.size:=L1.lt;have hLi:(L.length:Int)<=1048576:=by omega
 have hKi:(K.length:Int)<=1048576:=by omega
 have HLR:Hid (LRow wc v.heap.size g gT dT gO dO gP dP T O P):=LRX;have HLB:Hid (∀b,inL (.slice (some ⟨gT,0,none⟩) T.length dT) (.slice (some ⟨gO,0,none⟩) O.length dO) (.slice (some ⟨gP,0,none⟩) P.length dP) b->v.heap.size<=b/\b<wc.heap.size):=fun b hb=>LRX.lv.lo hb;clear L0 L1 LRX;go_wp2;go_loopw [4] (fun i wr=>∃(k:Nat) (av:Option Addr) (cv:Nat) (G:List G8),i=.int .i64 k/\k<=L.length/\Hid (Lay wr g [.int .i64 now,.slice (some ⟨gT,0,none⟩) T.length dT,.slice (some ⟨gO,0,none⟩) O.length dO,.slice (some ⟨gP,0,none⟩) P.length dP,.slice av k cv,.slice none 0 0,.int .i64 nx])/\Hid (CpP wr wc.heap.size (.slice av k cv) G (L.take k))/\OnlyO (some g) wc wr) (fun i _=>L.length-(intOf i).toNat);case atStart=>exact⟨0,none,0,[],rfl,by omega,LG,CpP.zero _ _,OnlyO.of_below (brf _ _)⟩
 case round =>
  obtain⟨k,av,cv,G,rfl,hk,HL1,HC,ho⟩:=hrel;have zr:=ho.size;have bwr:Bw w wr:=bwc.trans (ho.below (fun q hq=>by have:=osi hq;omega) (by omega));have L0r:=L0c.onlyO ho (fun e=>by have:=osi e;omega);have c4:wr.cell? ⟨w.heap.size,4,none⟩=some (.slice aL L.length cL):=L0r.cell 4 _ rfl;by_cases hlt:k<L.length
  ·have hlt':(k:Int)<(L.length:Int):=(by omega);obtain⟨b,off,sa,sc,hal,hbl,d0,d1,d2,sm⟩:=hL.at bwr k hlt;subst hal;obtain⟨wd,fl,xs,hx⟩:∃wd fl xs,L[k]=(wd,fl,xs):=⟨_,_,_,rfl⟩;have HX:Hid (L[k]=(wd,fl,xs)):=hx;have hxl:xs.length<=1048576:=(by have q:=sL L[k] (List.getElem_mem hlt);rw[hx]at q;exact q);rw[hx]at d0 d1 d2 sm;clear hx;simp only at d0 d1 d2 sm;have hbz:b<wr.heap.size:=nlt hbl bwr.size;have smr:Iw wr sa xs:=sm.up bwr.size;have hlk:(L.take k).length=k:=(by rw[List.length_take];omega);have HLK:Hid ((L.take k).length=k):=hlk;have HTK:Hid (L.take (k+1)=L.take k ++ [(wd,fl,xs)]):=(by show L.take (k+1)=_;rw[zdr L hlt,HX.out]);clear hlk sm;have HS:Hid (∀x,Bw wr x->x.cell? ⟨g,4,none⟩=some (.slice av k cv)/\x.cell? ⟨w.heap.size,4,none⟩=some (.slice (some ⟨b,off,none⟩) L.length cL)/\x.cell? ⟨b,off+k*3,none⟩=some (.int .i64 wd)/\x.cell? ⟨b,off+k*3+1,none⟩=some (.int .i64 fl)/\x.cell? ⟨b,off+k*3+2,none⟩=some (.slice sa xs.length sc)):=fun x hx=>⟨(HL1.out.next hx).cell 4 _ rfl,(L0r.next hx).cell 4 _ rfl,bct hx hbz d0,bct hx hbz d1,bct hx hbz d2⟩;go_upto_region 5 with (fail);refine ze9 11 HS (brf _ _).drew fun hS=>?_;refine zae 0 rfl ?_;refine zae 1 rfl ?_;refine zae 2 rfl ?_;refine zae 3 rfl ?_;refine zae 4 rfl ?_;refine zae 5 rfl ?_;refine zae 6 rfl ?_;refine zaj (i:=7) (by kernel_rfl) rfl (fun Kr hKr=>?_);go_simp;refine (zqy sc hxl (smr.here (brf _ _).drew)).mono ?_;rintro e u1 ⟨va,ca,rfl,own1,hb1⟩;have hb1:=za8 hb1;have hS1:=HS.out _ hb1;refine hKr.out _ _ ‹_› fun _=>?_;(try simp only[nrm]);refine zaj (i:=8) (by kernel_rfl) rfl (fun Kr hKr=>?_);go_simp;refine hKr.out _ _ (HS.out _ (zaa hb1 (zad _ _))) (fun hS=>?_);(try simp only[nrm]);refine zaj (i:=9) (by kernel_rfl) rfl (fun Kr hKr=>?_);rw[if_pos (by rfl)];have C1:=HC.out.next (zaa hb1 (zad u1 (.cells #[.int .i64 wd,.int .i64 fl,.slice va xs.length ca] 50)));have own2:(u1.alloc (.cells #[.int .i64 wd,.int .i64 fl,.slice va xs.length ca] 50)).ownsRow wc.heap.size 2 1 (.slice va xs.length ca) xs.length (zbc xs):=(zc0 own1 (by exact zr)).alloc _;have z1:=hb1.size;refine wp_append_own _ _ _ 28 rfl wc.heap.size 50 i1 _ 3 40 Tryz.underlying28 hj hy0 hy1 hy2 rfl (by decide) _ _ _ rfl C1.row ⟨u1.heap.size,0,none⟩ 1 1 [.int .i64 wd,.int .i64 fl,.slice va xs.length ca] rfl rfl (zmi (by go_simp) (by go_simp) (by go_simp)) (fun u hu=>by simp only[List.mem_cons,List.not_mem_nil,or_false]at hu;rcases hu with rfl|rfl|rfl<;>rfl) (by rw[HLK.out];unfold maxLen;omega) (by rw[HLK.out];omega) (by simp;omega) ?_;intro v' w' hown' hgr hnil;have C2:=C1.push own2 (fun q hq=>by have h1:=own1.lt q hq;refine⟨nlt h1.2 (by simp),fun j hj e=>?_⟩;have h2:=(HC.out.sep j hj q e).1;have h3:wr.heap.size<=q:=h1.1;omega) hown' hgr;rw[HLK.out]at hown';obtain⟨a',c',rfl⟩:=za2 hown';have ho1:OnlyO (some g) wc u1:=ho.trans (OnlyO.of_below (hb1));have hoq:OnlyO (some g) wc w':=zo7 ho1 hgr (fun q hq=>(HC.out.row.lt q hq).1);have Lq:Lay w' g [.int .i64 now,.slice (some ⟨gT,0,none⟩) T.length dT,.slice (some ⟨gO,0,none⟩) O.length dO,.slice (some ⟨gP,0,none⟩) P.length dP,.slice av k cv,.slice none 0 0,.int .i64 nx]:=zss (HL1.out.next hb1) hgr (fun q hq e=>by have:=(HC.out.row.lt q hq).1;omega);have bq:Bw w w':=bwc.trans (hoq.below (fun q hq=>by have:=osi hq;omega) (by omega));have L0q:=L0c.onlyO hoq (fun e=>by have:=osi e;omega);have dd:w'.cell? ⟨b,off+k*3,none⟩=some (.int .i64 wd)/\w'.cell? ⟨b,off+k*3+1,none⟩=some (.int .i64 fl)/\w'.cell? ⟨b,off+k*3+2,none⟩=some (.slice sa xs.length sc):=(by obtain⟨b',off',sa',sc',e',_,q0,q1,q2,_⟩:=hL.at bq k hlt;injection e' with e';injection e' with e1 e2;subst e1 e2;obtain⟨b2,off2,sa2,sc2,e2,_,r0,r1,r2,_⟩:=hL.at bwr k hlt;injection e2 with e2;injection e2 with e3 e4;subst e3 e4;exact⟨(bct bq hbl (bwr.cell (by exact hbl)).symm).trans d0,(bct bq hbl (bwr.cell (by exact hbl)).symm).trans d1,(bct bq hbl (bwr.cell (by exact hbl)).symm).trans d2⟩);have LF:Hid (Lay (w'.setCell ⟨g,4,none⟩ (.slice a' (k+1) c')) g [.int .i64 now,.slice (some ⟨gT,0,none⟩) T.length dT,.slice (some ⟨gO,0,none⟩) O.length dO,.slice (some ⟨gP,0,none⟩) P.length dP,.slice a' (k+1) c',.slice none 0 0,.int .i64 nx]):=Lq.put (p:=[.int .i64 now,.slice (some ⟨gT,0,none⟩) T.length dT,.slice (some ⟨gO,0,none⟩) O.length dO,.slice (some ⟨gP,0,none⟩) P.length dP]) (q:=[.slice av k cv]) (r:=[.slice none 0 0,.int .i64 nx]) [.slice a' (k+1) c'] rfl;have CF:Hid (CpP (w'.setCell ⟨g,4,none⟩ (.slice a' (k+1) c')) wc.heap.size (.slice a' (k+1) c') (G ++ [(wd,fl,.slice va xs.length ca)]) (L.take k ++ [(wd,fl,xs)])):=C2.set _ hgc;have OF:OnlyO (some g) wc (w'.setCell ⟨g,4,none⟩ (.slice a' (k+1) c')):=hoq.trans (OnlyO.of_only ((Only.refl _ w').setCell (p:=⟨g,4,none⟩) rfl _));have lq4:w'.cell? ⟨g,4,none⟩=some (.slice av k cv):=Lq.cell 4 _ rfl;have lqf:=Lq.free;refine hKr.out _ _ ⟨lq4,L0q.cell 4 _ rfl,dd.1,dd.2.1,dd.2.2⟩ (fun hS=>?_);(try simp only[nrm]);refine zae 10 rfl ?_;refine zat (by kernel_rfl) rfl (by kernel_rfl) (fun Kr hKr=>?_);go_simp;refine hKr.out _ _ ?_;(try simp only[nrm]);go_wp2;go_roundw;case rel=>exact⟨k+1,a',c',_,by go_num,by omega,LF.out,(by rw[HTK.out];exact CF.out),OF⟩
   case measure=>simp[intOf]<;>omega
  ·have e:k=L.length:=(by omega);subst e;have HTV:Hid (TV wr wc.heap.size wr.heap.size (.slice av L.length cv) L):=(by have q:=HC.out;rw[List.take_length]at q;exact q.tv rfl);have HLR1:Hid (LRow wr v.heap.size g gT dT gO dO gP dP T O P):=HLR.out.onlyO ho;have L1r:=L1c.onlyO ho (fun e=>by have:=osi e;omega);have LG1:=HL1.out;have c5:wr.cell? ⟨w.heap.size,5,none⟩=some (.slice aK K.length cK):=L0r.cell 5 _ rfl;clear HC HLR hlt;go_wp2;clear c4 c5;obtain⟨y1,hy1⟩:∃y,y=wr:=⟨_,rfl⟩;subst hy1;go_loopw [5] (fun i wq=>∃(k:Nat) (ak:Option Addr) (ck:Nat) (G2:List G14),i=.int .i64 k/\k<=K.length/\Hid (Lay wq g [.int .i64 now,.slice (some ⟨gT,0,none⟩) T.length dT,.slice (some ⟨gO,0,none⟩) O.length dO,.slice (some ⟨gP,0,none⟩) P.length dP,.slice av L.length cv,.slice ak k ck,.int .i64 nx])/\Hid (CpK wq y1.heap.size (.slice ak k ck) G2 (K.take k))/\OnlyO (some g) y1 wq) (fun i _=>K.length-(intOf i).toNat);case atStart=>exact⟨0,none,0,[],rfl,by omega,LG1,CpK.zero _ _,OnlyO.of_below (brf _ _)⟩
   case round =>
    obtain⟨k,ak,ck,G2,rfl,hk2,HL2,HC2,ho2⟩:=hrel;have zr2:=ho2.size;have hgy:g<y1.heap.size:=LG1.lt;have bwr2:Bw w wr:=bwr.trans (ho2.below (fun q hq=>by have:=osi hq;omega) (by omega));have L0q:=L0r.onlyO ho2 (fun e=>by have:=osi e;omega);have c5:wr.cell? ⟨w.heap.size,5,none⟩=some (.slice aK K.length cK):=L0q.cell 5 _ rfl;by_cases hlt:k<K.length
    ·have hlt':(k:Int)<(K.length:Int):=(by omega);obtain⟨b,off,sa,sc,hak,hbl,d0,d13,sm⟩:=hK.at bwr2 k hlt;subst hak;obtain⟨c,hc⟩:∃c,K[k]=c:=⟨_,rfl⟩;have hxl:c.xs.length<=1048576:=(by rw[<-hc];exact sK _ (List.getElem_mem hlt));rw[hc]at d0 d13 sm;have HTK:Hid (K.take (k+1)=K.take k ++ [c]):=(by show K.take (k+1)=_;rw[zdr K hlt,hc]);have HLK:Hid ((K.take k).length=k):=(by show (K.take k).length=k;rw[List.length_take];omega);clear hc;have e0:wr.cell? ⟨b,off+k*14,none⟩=some (.int .i64 c.id):=d0 0 _ rfl;have e1:wr.cell? ⟨b,off+k*14+1,none⟩=some (.int .i64 c.lf):=d0 1 _ rfl;have e2:wr.cell? ⟨b,off+k*14+2,none⟩=some (.int .i64 c.pl):=d0 2 _ rfl;have e3:wr.cell? ⟨b,off+k*14+3,none⟩=some (.int .i64 c.k):=d0 3 _ rfl;have e4:wr.cell? ⟨b,off+k*14+4,none⟩=some (.int .i64 c.wn):=d0 4 _ rfl;have e5:wr.cell? ⟨b,off+k*14+5,none⟩=some (.int .i64 c.th):=d0 5 _ rfl;have e6:wr.cell? ⟨b,off+k*14+6,none⟩=some (.int .i64 c.fl):=d0 6 _ rfl;have e7:wr.cell? ⟨b,off+k*14+7,none⟩=some (.int .i64 c.ac):=d0 7 _ rfl;have e8:wr.cell? ⟨b,off+k*14+8,none⟩=some (.int .i64 c.la):=d0 8 _ rfl;have e9:wr.cell? ⟨b,off+k*14+9,none⟩=some (.int .i64 c.og):=d0 9 _ rfl;have e10:wr.cell? ⟨b,off+k*14+10,none⟩=some (.int .i64 c.st):=d0 10 _ rfl;have e11:wr.cell? ⟨b,off+k*14+11,none⟩=some (.int .i64 c.fr):=d0 11 _ rfl;have e12:wr.cell? ⟨b,off+k*14+12,none⟩=some (.bool c.sl):=d0 12 _ rfl;have e13:wr.cell? ⟨b,off+k*14+13,none⟩=some (.slice sa c.xs.length sc):=d13;go_upto_region 10 with (fail);obtain⟨y,hy,Y0,b1⟩:=new1 wr 47 [.int .i64 c.id,.int .i64 c.lf,.int .i64 c.pl,.int .i64 c.k,.int .i64 c.wn,.int .i64 c.th,.int .i64 c.fl,.int .i64 c.ac,.int .i64 c.la,.int .i64 c.og,.int .i64 c.st,.int .i64 c.fr,.bool c.sl,.slice sa c.xs.length sc];rw[<-hy];clear hy e0 e1 e2 e3 e4 e5 e6 e7 e8 e9 e10 e11 e12 e13;have q13:y.cell? ⟨wr.heap.size,13,none⟩=some (.slice sa c.xs.length sc):=Y0.cell 13 _ rfl;have zy:=Y0.lt;have z1:=b1.size;have HSM:Hid (ISmp w.heap.size (y.alloc (.cells #[] 2)) sa c.xs):=(sm.mono (b1.mono bwr2.size)).mono ((zad y _).mono (by have:=bwr2.size;omega));go_upto_region 11 with (first| (at_builtin;refine zds (by rfl) _ _ 45 rfl y.heap.size 2 i0 _ Tryz.underlying45 hi hz0 hz1 hz2 rfl _ rfl (zd7 y _ _ rfl (nrf _) _) sa sc w.heap.size c.xs rfl HSM.out (by omega) (by simp) ?_;intro v' w3 own3 gr3 hzz;have HZC:Hid (c.xs=[]->∃a,v'=.slice a 0 0):=(fun e=>⟨_,hzz e⟩);clear hzz;have hb3:Bw y w3:=((brf _ y).alloc (nrf _) _).grown gr3 (by simp) (fun k hk=>Nat.le_of_eq (osi hk));obtain⟨va,ca,rfl⟩:=za2 own3;have Y3:=Y0.next hb3;have q13:w3.cell? ⟨wr.heap.size,13,none⟩=some (.slice sa c.xs.length sc):=Y3.cell 13 _ rfl;have qf:=Y3.free));obtain⟨w4,hw4⟩:∃y,y=w3.setCell ⟨wr.heap.size,13,none⟩ (.slice va c.xs.length ca):=⟨_,rfl⟩;rw[<-hw4];have o4:Only wr.heap.size w3 w4:=(by rw[hw4];exact (Only.refl _ w3).setCell (p:=⟨wr.heap.size,13,none⟩) rfl _);have Y4:Lay w4 wr.heap.size [.int .i64 c.id,.int .i64 c.lf,.int .i64 c.pl,.int .i64 c.k,.int .i64 c.wn,.int .i64 c.th,.int .i64 c.fl,.int .i64 c.ac,.int .i64 c.la,.int .i64 c.og,.int .i64 c.st,.int .i64 c.fr,.bool c.sl,.slice va c.xs.length ca]:=(by rw[hw4];exact Y3.put (p:=[.int .i64 c.id,.int .i64 c.lf,.int .i64 c.pl,.int .i64 c.k,.int .i64 c.wn,.int .i64 c.th,.int .i64 c.fl,.int .i64 c.ac,.int .i64 c.la,.int .i64 c.og,.int .i64 c.st,.int .i64 c.fr,.bool c.sl]) (q:=[.slice sa c.xs.length sc]) (r:=[]) [.slice va c.xs.length ca] rfl);clear hw4 q13 qf;have b3:=zaa b1 hb3;have b4:Bw wr w4:=b3.trans (o4.below (nrf _) b3.size);have own4:w4.ownsRow y.heap.size 2 1 (.slice va c.xs.length ca) c.xs.length (zbc c.xs):=own3.kept (row:=some wr.heap.size) ⟨o4.os,o4.tape,o4.output,o4.size,fun k hk hn=>o4.block k hk (fun e=>hn (by rw[e]))⟩ (by
      cases hob:(Value.slice va c.xs.length ca).ownBlock with
      | none=>exact .inl rfl| some q=>exact .inr (fun e=>by have h1:=(own3.lt q hob).1;have h3:=osi e;omega))
     have z4:=b4.size;have zo4:=o4.size;have z3:=hb3.size;have L24:=HL2.out.next b4;have g5:w4.cell? ⟨g,5,none⟩=some (.slice ak k ck):=L24.cell 5 _ rfl;have g5f:=L24.free;obtain⟨f0,f1,f2,f3,f4,f5,f6,f7,f8,f9,f10,f11,f12,f13⟩:=Y4.c14;have C4:=HC2.out.next (zaa b4 (zad w4 (.cells #[.int .i64 c.id,.int .i64 c.lf,.int .i64 c.pl,.int .i64 c.k,.int .i64 c.wn,.int .i64 c.th,.int .i64 c.fl,.int .i64 c.ac,.int .i64 c.la,.int .i64 c.og,.int .i64 c.st,.int .i64 c.fr,.bool c.sl,.slice va c.xs.length ca] 47)));have NEW:=zbs (u:=w4) [.int .i64 c.id,.int .i64 c.lf,.int .i64 c.pl,.int .i64 c.k,.int .i64 c.wn,.int .i64 c.th,.int .i64 c.fl,.int .i64 c.ac,.int .i64 c.la,.int .i64 c.og,.int .i64 c.st,.int .i64 c.fr,.bool c.sl,.slice va c.xs.length ca] 47 rfl;have own5:(w4.alloc (.cells #[.int .i64 c.id,.int .i64 c.lf,.int .i64 c.pl,.int .i64 c.k,.int .i64 c.wn,.int .i64 c.th,.int .i64 c.fl,.int .i64 c.ac,.int .i64 c.la,.int .i64 c.og,.int .i64 c.st,.int .i64 c.fr,.bool c.sl,.slice va c.xs.length ca] 47)).ownsRow y1.heap.size 2 1 (.slice va c.xs.length ca) c.xs.length (zbc c.xs):=(zc0 own4 (by omega)).alloc _;go_wp2_with (first| (at_builtin;refine wpList_append_own _ rfl _ _ 29 rfl y1.heap.size 47 i2 _ 14 128 Tryz.underlying29 hi2 hq0 hq1 hq2 rfl (by decide) _ _ _ rfl C4.row ⟨w4.heap.size,0,none⟩ 1 1 (zgt (c,.slice va c.xs.length ca)) rfl rfl ?c1 ?c2 ?c3 ?c4 ?c5 ?c6;rotate_left 5;intro v' w' hown' hgr hnil;have C5:=C4.push own5 (fun q hq=>(by have h1:=own4.lt q hq;exact⟨nlt h1.2 (by simp),fun j hj e=>(by have h2:=(HC2.out.sep j hj q e).1;omega)⟩)) HZC.out hown' hgr;rw[HLK.out]at hown';obtain⟨a',c',rfl⟩:=za2 hown';have ho4:OnlyO (some g) y1 w4:=ho2.trans (OnlyO.of_below b4);have hoq:OnlyO (some g) y1 w':=zo7 ho4 hgr (fun q hq=>(HC2.out.row.lt q hq).1);have Lq:Lay w' g [.int .i64 now,.slice (some ⟨gT,0,none⟩) T.length dT,.slice (some ⟨gO,0,none⟩) O.length dO,.slice (some ⟨gP,0,none⟩) P.length dP,.slice av L.length cv,.slice ak k ck,.int .i64 nx]:=zss L24 hgr (fun q hq e=>by have:=(HC2.out.row.lt q hq).1;omega);have lq5:w'.cell? ⟨g,5,none⟩=some (.slice ak k ck):=Lq.cell 5 _ rfl;have lqf:=Lq.free;have LF:Hid (Lay (w'.setCell ⟨g,5,none⟩ (.slice a' (k+1) c')) g [.int .i64 now,.slice (some ⟨gT,0,none⟩) T.length dT,.slice (some ⟨gO,0,none⟩) O.length dO,.slice (some ⟨gP,0,none⟩) P.length dP,.slice av L.length cv,.slice a' (k+1) c',.int .i64 nx]):=Lq.put (p:=[.int .i64 now,.slice (some ⟨gT,0,none⟩) T.length dT,.slice (some ⟨gO,0,none⟩) O.length dO,.slice (some ⟨gP,0,none⟩) P.length dP,.slice av L.length cv]) (q:=[.slice ak k ck]) (r:=[.int .i64 nx]) [.slice a' (k+1) c'] rfl;have CF:Hid (CpK (w'.setCell ⟨g,5,none⟩ (.slice a' (k+1) c')) y1.heap.size (.slice a' (k+1) c') (G2 ++ [(c,.slice va c.xs.length ca)]) (K.take k ++ [c])):=C5.set _ hgy;have OF:OnlyO (some g) y1 (w'.setCell ⟨g,5,none⟩ (.slice a' (k+1) c')):=hoq.trans (OnlyO.of_only ((Only.refl _ w').setCell (p:=⟨g,5,none⟩) rfl _));clear g5 g5f));case c1=>intro j u hu;rw[zfg,Nat.zero_add];exact NEW.cell j u hu
     case c2=>intro u hu;simp only[zgt,Kn.cs,List.mem_append,List.mem_cons,List.not_mem_nil,or_false]at hu;rcases hu with (rfl|rfl|rfl|rfl|rfl|rfl|rfl|rfl|rfl|rfl|rfl|rfl|rfl)|rfl<;>rfl
     case c3=>rw[HLK.out];unfold maxLen;omega
     case c4=>rw[HLK.out];omega
     case c5=>simp;omega
     go_roundw;case rel=>exact⟨k+1,a',c',_,by go_num,by omega,LF.out,(by rw[HTK.out];exact CF.out),OF⟩
     case measure=>simp[intOf]<;>omega
    ·have e:k=K.length:=(by omega);subst e;have HCK:Hid (CpK wr y1.heap.size (.slice ak K.length ck) G2 K):=(by have q:=HC2.out;rw[List.take_length]at q;exact q);have L1q:=L1r.onlyO ho2 (fun e=>by have:=osi e;omega);have LGQ:=HL2.out;obtain⟨l0,l1,l2,l3,l4,l5,l6⟩:=LGQ.c7;obtain⟨r0,r1,r2,r3,r4,r5,r6⟩:=L1q.c7;have fz:=L1q.free;go_wp2;obtain⟨u,hu',ou,U⟩:=stE (b:=w.heap.size+1) L1q now (some ⟨gT,0,none⟩) T.length dT (some ⟨gO,0,none⟩) O.length dO (some ⟨gP,0,none⟩) P.length dP av L.length cv ak K.length ck nx;rw[hu'];clear hu';have zu:=ou.size;have lq:=(HLR1.out.onlyO ho2).lv;have LB:Hid (∀b,inL (.slice (some ⟨gT,0,none⟩) T.length dT) (.slice (some ⟨gO,0,none⟩) O.length dO) (.slice (some ⟨gP,0,none⟩) P.length dP) b->v.heap.size<=b/\b<wc.heap.size):=fun b hb=>(by have h1:=(HLB.out b hb);exact h1);have lu:LV u v.heap.size (.slice (some ⟨gT,0,none⟩) T.length dT) (.slice (some ⟨gO,0,none⟩) O.length dO) (.slice (some ⟨gP,0,none⟩) P.length dP) T O P:=lq.onlyP (p:=fun k=>k=w.heap.size+1) ⟨ou.os,ou.tape,ou.output,ou.size,fun k hk hn=>ou.block k hk hn⟩ (fun b e e'=>by have:=LB.out b (.inl e);omega) (fun b e e'=>by have:=LB.out b (.inr (.inl e));omega) (fun b e e'=>by have:=LB.out b (.inr (.inr e));omega);have tq:TV wr wc.heap.size y1.heap.size (.slice av L.length cv) L:=HTV.out.same ho2.size (fun b a1 a2 a3=>ho2.block b a3 (fun e=>by have:=osi e;omega));have tu:TV u wc.heap.size y1.heap.size (.slice av L.length cv) L:=tq.same ou.size (fun b a1 a2 a3=>ou.block b a3 (by omega));have ku:CpK u y1.heap.size (.slice ak K.length ck) G2 K:=HCK.out.only1 ou (by omega);refine bodyPost_ret (zaf rfl _ _ _ _ rfl U.cell Tryz.underlying31 rfl (by kernel_rfl)) rfl ?_;exact⟨_,dT,_,dO,_,dP,av,cv,ak,ck,G2,wc.heap.size,y1.heap.size,rfl,lu.lower (by omega),(fun b hb=>(LB.out b hb).2),tu,ku,⟨by omega,by omega,by omega⟩,bwr2.trans (ou.below (by omega) bwr2.size)⟩
theorem zva{u1 u:World}{lo lo' g lh ph dT dO dP dL dK:Nat}{bT bO bP bL bK:Option Addr}{T O P:List Q4}{L:List F8}{K:List Kn}{GK:List G14}(lv:LV u1 lo (.slice bT T.length dT) (.slice bO O.length dO) (.slice bP P.length dP) T O P)(lb:∀b,inL (.slice bT T.length dT) (.slice bO O.length dO) (.slice bP P.length dP) b->b<lh)(tv:TV u1 lh ph (.slice bL L.length dL) L)(ck:CpK u1 ph (.slice bK K.length dK) GK K)(hz:lo<=lh/\lh<=ph/\ph<=u1.heap.size)(o:Only g u1 u)(hg:g<lo)(hl:lo'<=lo):
 Eng u lo' u.heap.size (.slice bT T.length dT) (.slice bO O.length dO) (.slice bP P.length dP) (.slice bL L.length dL) (.slice bK K.length dK) T O P L K:=by
 have zu:=o.size;have lu:=lv.onlyP (p:=fun k=>k=g) ⟨o.os,o.tape,o.output,o.size,fun k hk hn=>o.block k hk hn⟩ (fun b e e'=>by have:=(lv.t.own e).1;omega) (fun b e e'=>by have:=(lv.o.own e).1;omega) (fun b e e'=>by have:=(lv.p.own e).1;omega);have tu:TV u lh ph (.slice bL L.length dL) L:=tv.same o.size (fun b a1 a2 a3=>o.block b a3 (by omega));have ku:=(ck.only1 o (by omega)).kv rfl;exact Eng.ofI (hrm:=fun _ _ _ kx=>(ck.only1 o (by omega)).rm rfl kx) ⟨lo,lh,lh,ph,ph,u.heap.size,⟨hl,by omega,by omega⟩,⟨by omega,by omega,nrf _⟩,lu,lb,tu,ku,.inl (nrf _),.inl hz.2.1,.inl (nrf _),by omega,by omega,nrf _⟩
section
variable{w:World}(now nx:Int){aT aO aP aL aK:Option Addr}(cT cO cP cL cK:Nat){T O P:List Q4}{L:List F8}{K:List Kn}
theorem zri:Calls Tryz.prog 47 #[zcf now aT T.length cT aO O.length cO aP P.length cP aL L.length cL aK K.length cK nx,.int .i64 1] w (zbf w 0 0 [] [] [] [] [] (.int .i64 1)):=by obtain⟨v,hv,nb,L0,L1⟩:=preE w 31 now aT T.length cT aO O.length cO aP P.length cP aL L.length cL aK K.length cK nx;have hw1:=L1.lt;go_enter Tryz.func47,Tryz.ntmps47;go_upto_region 1 with (fail);rw[<-hv];clear hv;obtain⟨z0,z1,z2,z3,z4,z5,z6⟩:=L1.c7;have fz:=L1.free;go_wp2;obtain⟨u,hu',ou,U⟩:=stE (b:=w.heap.size+1) L1 0 none 0 0 none 0 0 none 0 0 none 0 0 none 0 0 0;rw[hu'];clear hu';have zu:=ou.size;refine bodyPost_ret (zah rfl _ _ _ _ rfl U.cell Tryz.underlying31 rfl (by kernel_rfl)) rfl ?_;exact⟨_,_,_,_,_,_,_,_,_,_,rfl,zlf (by have:=nb.size;omega) (nrf _),nb.trans (ou.below (by omega) nb.size)⟩
theorem zct(hT:Qw w aT T)(hO:Qw w aO O)(hP:Qw w aP P)(hL:Fw w aL L)(hK:Kw w aK K)(nT:1<=T.length/\T.length<=30)(nO:1<=O.length/\O.length<=30)(nP:1<=P.length/\P.length<=30)(mL:L.length<=1048576)(sL:∀f ∈ L,f.2.2.length<=1048576)(mK:K.length<=1048576)(sK:∀c ∈ K,c.xs.length<=1048576)(code:Int)(hc:¬code=1):Calls Tryz.prog 47 #[zcf now aT T.length cT aO O.length cO aP P.length cP aL L.length cL aK K.length cK nx,.int .i64 code] w (zbf w now nx T O P L K (.int .i64 code)):=by
 have hc':(code == 1)=false:=by simp[hc]
 clear hc;obtain⟨v,hv,nb,L0,L1⟩:=preE w 31 now aT T.length cT aO O.length cO aP P.length cP aL L.length cL aK K.length cK nx;have hw1:=L1.lt;go_enter Tryz.func47,Tryz.ntmps47;go_upto_region 1 with (fail);rw[<-hv];clear hv;obtain⟨q0,q1,q2,q3,q4,q5,q6⟩:=L0.c7;go_wp2_with (first|(go_at_call 52;refine (zcw now nx cT cO cP cL cK (hT.here nb) (hO.here nb) (hP.here nb) (hL.here nb) (hK.here nb) nT nO nP mL sL mK sK).mono ?_;rintro e u1 ⟨bT,dT,bO,dO,bP,dP,bL,dL,bK,dK,GK,lh,ph,rfl,lv,lb,tv,ck,hz,hb1⟩;have LU:=L1.next hb1;obtain⟨z0,z1,z2,z3,z4,z5,z6⟩:=LU.c7;have fz:=LU.free));obtain⟨u,hu',ou,U⟩:=stE (b:=w.heap.size+1) LU now bT T.length dT bO O.length dO bP P.length dP bL L.length dL bK K.length dK nx;rw[hu'];clear hu';have zu:=ou.size;have bw:=zaa nb hb1;refine bodyPost_ret (zah rfl _ _ _ _ rfl U.cell Tryz.underlying31 rfl (by kernel_rfl)) rfl ?_;exact⟨bT,dT,bO,dO,bP,dP,bL,dL,bK,dK,rfl,zva lv lb tv ck hz ou (by omega) nb.size,bw.trans (ou.below (by omega) bw.size)⟩
end
theorem zio{u:World}{lo lh ph dT dO dP dL dK:Nat}{bT bO bP bL bK:Option Addr}{T O P:List Q4}{L:List F8}{K:List Kn}{GK:List G14}(lv:LV u lo (.slice bT T.length dT) (.slice bO O.length dO) (.slice bP P.length dP) T O P)(lb:∀b,inL (.slice bT T.length dT) (.slice bO O.length dO) (.slice bP P.length dP) b->b<lh)(tv:TV u lh ph (.slice bL L.length dL) L)(ck:CpK u ph (.slice bK K.length dK) GK K)(hz:lo<=lh/\lh<=ph/\ph<=u.heap.size):
 ∃uL uK,EOwn u lo u.heap.size (.slice bT T.length dT) (.slice bO O.length dO) (.slice bP P.length dP) (.slice bL L.length dL) uL (.slice bK K.length dK) uK T O P L K:=by
 obtain⟨uL,tx⟩:=tv.tx;obtain⟨uK,kx⟩:=(ck.kv rfl).kx;have h1:=hz.1;have h2:=hz.2.1;have h3:=hz.2.2;exact⟨uL,uK,lv,fun b hb=>by have:=lb b hb;omega,tx.wider h1 h3 (nrf _),kx.wider (by omega) (nrf _) (nrf _),
  fun b hb hv=>by have a1:=lb b hb;have a3:=tx.bd hv;omega,fun b hb hv=>by have a1:=lb b hb;have a3:=kx.bd hv;omega,fun b hb hv=>by have a1:=tx.bd hb;have a3:=kx.bd hv;omega,nrf _,ck.rm rfl kx⟩
section
variable{w w':World}{lo hi hi' g:Nat}{vs:List Value}
theorem KO.put{ks:List Kn}(h:KO w lo hi g ks.length vs ks){i:Nat}(hi1:i<ks.length)(c:Kn){v:Value}(o:Only g w w')(hc:∀j u,(c.cs ++ [v])[j]?=some u->w'.cell? ⟨g,i*14+j,none⟩=some u)(hs:∀j,j<i*14\/i*14+14<=j->w'.cell? ⟨g,j,none⟩=w.cell? ⟨g,j,none⟩)(hf:∀j,w'.frozen? ⟨g,j,none⟩=w.frozen? ⟨g,j,none⟩)(hv:IO w lo hi' v c.xs)(hg:elB v≠some g)(hn:∀j (hj:j<vs.length),j≠i->∀b,elB v=some b->elB vs[j]≠some b)(h1:hi<=hi')(h2:hi'<=w.heap.size):
 KO w' lo hi' g (ks.set i c).length (vs.set i v) (ks.set i c):=by
 have zs:=o.size;have hl:=h.len;have same:∀{u:Value} {xs:List Int} {a b:Nat},IO w a b u xs->elB u≠some g->IO w' a b u xs:=fun q hne=>q.same zs (fun b e=>o.block b (q.el e).2.2 (fun e'=>hne (by rw[e,e'])));have atV:∀j (hj:j<(vs.set i v).length),(j=i/\(vs.set i v)[j]=v)\/(j≠i/\∃hj':j<vs.length,(vs.set i v)[j]=vs[j]):=fun j hj=>by
  rw[List.getElem_set];rw[List.length_set]at hj;by_cases e:i=j
  ·exact .inl ⟨e.symm,if_pos e⟩
  ·exact .inr ⟨fun e'=>e e'.symm,hj,if_neg e⟩
 have atK:∀j (hj:j<(ks.set i c).length),(j=i/\(ks.set i c)[j]=c)\/(j≠i/\∃hj':j<ks.length,(ks.set i c)[j]=ks[j]):=fun j hj=>by
  rw[List.getElem_set];rw[List.length_set]at hj;by_cases e:i=j
  ·exact .inl ⟨e.symm,if_pos e⟩
  ·exact .inr ⟨fun e'=>e e'.symm,hj,if_neg e⟩
 refine⟨h.g0,nlt h.g1 h1,ntr h2 zs,by rw[List.length_set,List.length_set,hl],nrf _,fun j hj=>?_,fun j hk hj=>?_,fun j hk hj=>?_,fun j hj=>?_,fun j k hj hk hne b hb=>?_⟩
 ·rw[List.length_set]at hj;obtain⟨⟨z,hz⟩,hfz⟩:=h.any j hj;refine⟨?_,(hf _).trans hfz⟩;by_cases e:j<i*14\/i*14+14<=j
  ·exact⟨z,(hs j e).trans hz⟩
  ·obtain⟨u,hu⟩:∃u,(c.cs ++ [v])[j-i*14]?=some u:=⟨_,List.getElem?_eq_getElem (by show _<14;omega)⟩;have:=hc (j-i*14) u hu;rw[show i*14+(j-i*14)=j by omega]at this;exact⟨u,this⟩
 ·rcases atK j hk with⟨e,e1⟩|⟨e,hk',e1⟩
  ·rcases atV j hj with⟨_,e2⟩|⟨e',_⟩
   ·rw[e1,e2,e];exact⟨fun m u hu=>hc m u (by rw[List.getElem?_append_left (List.getElem?_eq_some_iff.1 hu).1];exact hu),hc 13 v rfl⟩
   ·exact absurd e e'
  ·rcases atV j hj with⟨e',_⟩|⟨_,hj',e2⟩
   ·exact absurd e' e
   ·rw[e1,e2];obtain⟨c0,c1⟩:=h.got j hk' hj';exact⟨fun m u hu=>(hs _ (by have:=(List.getElem?_eq_some_iff.1 hu).1;rw[Kn.len]at this;omega)).trans (c0 m u hu),(hs _ (by omega)).trans c1⟩
 ·rcases atK j hk with⟨e,e1⟩|⟨e,hk',e1⟩
  ·rcases atV j hj with⟨_,e2⟩|⟨e',_⟩
   ·rw[e1,e2];exact same hv hg
   ·exact absurd e e'
  ·rcases atV j hj with⟨e',_⟩|⟨_,hj',e2⟩
   ·exact absurd e' e
   ·rw[e1,e2];exact same ((h.own j hk' hj').wider (nrf _) h1) (h.far j hj')
 ·rcases atV j hj with⟨_,e2⟩|⟨_,hj',e2⟩
  ·rw[e2];exact hg
  ·rw[e2];exact h.far j hj'
 ·rcases atV j hj with⟨e,e2⟩|⟨e,hj',e2⟩
  ·rw[e2]at hb;rcases atV k hk with⟨e',_⟩|⟨e',hk',e3⟩
   ·exact absurd (e.trans e'.symm) hne
   ·rw[e3];exact hn k hk' e' b hb
  ·rw[e2]at hb;rcases atV k hk with⟨e',e3⟩|⟨e',hk',e3⟩
   ·rw[e3];intro e4;exact hn j hj' e b e4 hb
   ·rw[e3];exact h.apart j k hj' hk' hne b hb
theorem FO.put{fs:List F8}(h:FO w lo hi g fs.length vs fs){i:Nat}(hi1:i<fs.length)(q d:Int)(xs:List Int){v:Value}(o:Only g w w')(c0:w'.cell? ⟨g,i*3,none⟩=some (.int .i64 q))(c1:w'.cell? ⟨g,i*3+1,none⟩=some (.int .i64 d))(c2:w'.cell? ⟨g,i*3+2,none⟩=some v)(hs:∀j,j<i*3\/i*3+3<=j->w'.cell? ⟨g,j,none⟩=w.cell? ⟨g,j,none⟩)(hf:∀j,w'.frozen? ⟨g,j,none⟩=w.frozen? ⟨g,j,none⟩)(hv:IO w lo hi' v xs)(hg:elB v≠some g)(hn:∀j (hj:j<vs.length),j≠i->∀b,elB v=some b->elB vs[j]≠some b)(h1:hi<=hi')(h2:hi'<=w.heap.size):
 FO w' lo hi' g (fs.set i (q,d,xs)).length (vs.set i v) (fs.set i (q,d,xs)):=by
 have zs:=o.size;have hl:=h.len;have same:∀{u:Value} {xs:List Int} {a b:Nat},IO w a b u xs->elB u≠some g->IO w' a b u xs:=fun q hne=>q.same zs (fun b e=>o.block b (q.el e).2.2 (fun e'=>hne (by rw[e,e'])));have atV:∀j (hj:j<(vs.set i v).length),(j=i/\(vs.set i v)[j]=v)\/(j≠i/\∃hj':j<vs.length,(vs.set i v)[j]=vs[j]):=fun j hj=>by
  rw[List.getElem_set];rw[List.length_set]at hj;by_cases e:i=j
  ·exact .inl ⟨e.symm,if_pos e⟩
  ·exact .inr ⟨fun e'=>e e'.symm,hj,if_neg e⟩
 have atK:∀j (hj:j<(fs.set i (q,d,xs)).length),(j=i/\(fs.set i (q,d,xs))[j]=(q,d,xs))\/(j≠i/\∃hj':j<fs.length,(fs.set i (q,d,xs))[j]=fs[j]):=fun j hj=>by
  rw[List.getElem_set];rw[List.length_set]at hj;by_cases e:i=j
  ·exact .inl ⟨e.symm,if_pos e⟩
  ·exact .inr ⟨fun e'=>e e'.symm,hj,if_neg e⟩
 refine⟨h.g0,nlt h.g1 h1,ntr h2 zs,by rw[List.length_set,List.length_set,hl],nrf _,fun j hj=>?_,fun j hk hj=>?_,fun j hk hj=>?_,fun j hj=>?_,fun j k hj hk hne b hb=>?_⟩
 ·rw[List.length_set]at hj;obtain⟨⟨z,hz⟩,hfz⟩:=h.any j hj;refine⟨?_,(hf _).trans hfz⟩;by_cases e:j<i*3\/i*3+3<=j
  ·exact⟨z,(hs j e).trans hz⟩
  ·by_cases e0:j=i*3
   ·rw[e0];exact⟨_,c0⟩
   ·by_cases e1:j=i*3+1
    ·rw[e1];exact⟨_,c1⟩
    ·rw[show j=i*3+2 by omega];exact⟨_,c2⟩
 ·rcases atK j hk with⟨e,e1⟩|⟨e,hk',e1⟩
  ·rcases atV j hj with⟨_,e2⟩|⟨e',_⟩
   ·rw[e1,e2,e];exact⟨c0,c1,c2⟩
   ·exact absurd e e'
  ·rcases atV j hj with⟨e',_⟩|⟨_,hj',e2⟩
   ·exact absurd e' e
   ·rw[e1,e2];obtain⟨d0,d1,d2⟩:=h.got j hk' hj';exact⟨(hs _ (by omega)).trans d0,(hs _ (by omega)).trans d1,(hs _ (by omega)).trans d2⟩
 ·rcases atK j hk with⟨e,e1⟩|⟨e,hk',e1⟩
  ·rcases atV j hj with⟨_,e2⟩|⟨e',_⟩
   ·rw[e1,e2];exact same hv hg
   ·exact absurd e e'
  ·rcases atV j hj with⟨e',_⟩|⟨_,hj',e2⟩
   ·exact absurd e' e
   ·rw[e1,e2];exact same ((h.own j hk' hj').wider (nrf _) h1) (h.far j hj')
 ·rcases atV j hj with⟨_,e2⟩|⟨_,hj',e2⟩
  ·rw[e2];exact hg
  ·rw[e2];exact h.far j hj'
 ·rcases atV j hj with⟨e,e2⟩|⟨e,hj',e2⟩
  ·rw[e2]at hb;rcases atV k hk with⟨e',_⟩|⟨e',hk',e3⟩
   ·exact absurd (e.trans e'.symm) hne
   ·rw[e3];exact hn k hk' e' b hb
  ·rw[e2]at hb;rcases atV k hk with⟨e',e3⟩|⟨e',hk',e3⟩
   ·rw[e3];intro e4;exact hn j hj' e b e4 hb
   ·rw[e3];exact h.apart j k hj' hk' hne b hb
end
section
variable {w w':World} {lo hi g cap:Nat} {sT sO sP vL vK:Value} {uL uK:List Value} {T O P:List Q4} {L:List F8} {K:List Kn}
theorem EOwn.ko(h:EOwn w lo hi sT sO sP vL uL (.slice (some ⟨g,0,none⟩) K.length cap) uK T O P L K)(hk:0<K.length):K.length<=cap/\KO w lo hi g K.length uK K/\uK.length=K.length:=by
 rcases h.k with⟨g',cap',e,hc,f⟩|⟨e,_⟩
 ·injection e with e1 e2 e3;injection e1 with e1;injection e1 with e1;subst e1 e3;exact⟨hc,f,f.len⟩
 ·rw[e]at hk;cases hk
theorem EOwn.fo(h:EOwn w lo hi sT sO sP (.slice (some ⟨g,0,none⟩) L.length cap) uL vK uK T O P L K)(hk:0<L.length):L.length<=cap/\FO w lo hi g L.length uL L/\uL.length=L.length:=by
 rcases h.p with⟨g',cap',e,hc,f⟩|⟨e,_⟩
 ·injection e with e1 e2 e3;injection e1 with e1;injection e1 with e1;subst e1 e3;exact⟨hc,f,f.len⟩
 ·rw[e]at hk;cases hk
theorem zgq{i n n' cap g b:Nat}{us:List Value}{v:Value}(h:inV (.slice (some ⟨g,0,none⟩) n' cap) (us.set i v) b):inV (.slice (some ⟨g,0,none⟩) n cap) us b\/elB v=some b:=by
 obtain⟨h1,h2⟩:=h;have hu:us≠[]:=fun e=>h1 (by rw[e];rfl);rcases z1r h2 with h|h
 ·exact .inl ⟨hu,h⟩
 ·exact .inr h
theorem EOwn.putK{hi' i:Nat}{c:Kn}{v:Value}(h:EOwn w lo hi sT sO sP vL uL (.slice (some ⟨g,0,none⟩) K.length cap) uK T O P L K)(hi1:i<K.length)(o:Only g w w')(hc:∀j u,(c.cs ++ [v])[j]?=some u->w'.cell? ⟨g,i*14+j,none⟩=some u)(hs:∀j,j<i*14\/i*14+14<=j->w'.cell? ⟨g,j,none⟩=w.cell? ⟨g,j,none⟩)(hf:∀j,w'.frozen? ⟨g,j,none⟩=w.frozen? ⟨g,j,none⟩)(hv:IO w lo hi' v c.xs)(hn:∀b,elB v=some b->uK[i]?.bind elB=some b\/¬inE sT sO sP vL uL (.slice (some ⟨g,0,none⟩) K.length cap) uK b)(h1:hi<=hi')(h2:hi'<=w.heap.size)(hr:Room w v):
 EOwn w' lo hi' sT sO sP vL uL (.slice (some ⟨g,0,none⟩) (K.set i c).length cap) (uK.set i v) T O P L (K.set i c):=by
 obtain⟨hcap,ko,hl⟩:=h.ko (by omega);have hi2:i<uK.length:=by omega
 have hne:uK≠[]:=fun e=>by rw[e]at hi2;cases hi2
 have hin:inV (.slice (some ⟨g,0,none⟩) K.length cap) uK g:=⟨hne,.inl rfl⟩;have old:∀b,uK[i]?.bind elB=some b->elB uK[i]=some b:=fun b e=>by rw[List.getElem?_eq_getElem hi2]at e;exact e
 have mem:∀j (hj:j<uK.length) b,elB uK[j]=some b->inV (.slice (some ⟨g,0,none⟩) K.length cap) uK b:=fun j hj b e=>⟨hne,.inr ⟨_,List.getElem_mem hj,e⟩⟩;have hg:elB v≠some g:=fun e=>by
  rcases hn g e with q|q
  ·exact ko.far i hi2 (old g q)
  ·exact q (.inr (.inr hin))
 have hn':∀j (hj:j<uK.length),j≠i->∀b,elB v=some b->elB uK[j]≠some b:=fun j hj hne b e e'=>by
  rcases hn b e with q|q
  ·exact ko.apart i j hi2 hj (fun e=>hne e.symm) b (old b q) e'
  ·exact q (.inr (.inr (mem j hj b e')))
 have k':=ko.put hi1 c o hc hs hf hv hg hn' h1 h2;have oP:OnlyP (fun b=>b=g) w w':=OnlyP.ofOnly o rfl;refine⟨h.l.onlyP oP (fun b e e'=>h.d2 b (.inl e) (by rw[e'];exact hin)) (fun b e e'=>h.d2 b (.inr (.inl e)) (by rw[e'];exact hin)) (fun b e e'=>h.d2 b (.inr (.inr e)) (by rw[e'];exact hin)),fun b hb=>nlt (h.lb b hb) h1,(h.p.onlyP oP (fun b e e'=>h.d3 b e (by rw[e'];exact hin))).wider (nrf _) h1 (ntr h2 o.size),.inl ⟨g,cap,rfl,by rw[List.length_set];exact hcap,k'⟩,h.d1,fun b hb hv'=>?_,fun b hb hv'=>?_,ntr h2 o.size,fun u hu=>?_⟩;rotate_left 2
 ·rcases List.mem_or_eq_of_mem_set hu with q|q
  ·exact (h.rm u q).same (fun b e hb=>o.block b hb (fun e'=>by obtain⟨j,hj,rfl⟩:=List.mem_iff_getElem.1 q;exact ko.far j hj (by rw[e,e'])))
  ·rw[q];exact hr.same (fun b e hb=>o.block b hb (fun e'=>hg (by rw[e,e'])))
 ·rcases zgq (n:=K.length) hv' with q|q
  ·exact h.d2 b hb q
  ·rcases hn b q with r|r
   ·exact h.d2 b hb (mem i hi2 b (old b r))
   ·exact r (.inl hb)
 ·rcases zgq (n:=K.length) hv' with q|q
  ·exact h.d3 b hb q
  ·rcases hn b q with r|r
   ·exact h.d3 b hb (mem i hi2 b (old b r))
   ·exact r (.inr (.inl hb))
def Kn.ccs(c:Kn):List Value:=[.int .i64 c.k,.int .i64 c.wn,.int .i64 c.th,.int .i64 c.fl,.int .i64 c.ac,.int .i64 c.la,.int .i64 c.og,.int .i64 c.st,.int .i64 c.fr,.bool c.sl]
theorem EOwn.setCc{i:Nat}(h:EOwn w lo hi sT sO sP vL uL (.slice (some ⟨g,0,none⟩) K.length cap) uK T O P L K)(hi1:i<K.length)(c:Kn)(e1:c.id=K[i].id)(e2:c.lf=K[i].lf)(e3:c.pl=K[i].pl)(e4:c.xs=K[i].xs):
 EOwn (w.setCells g (i*14+3) c.ccs) lo hi sT sO sP vL uL (.slice (some ⟨g,0,none⟩) (K.set i c).length cap) uK T O P L (K.set i c):=by
 obtain⟨hcap,ko,hl⟩:=h.ko (by omega);have hi2:i<uK.length:=by omega
 obtain⟨c0,c1⟩:=ko.got i hi1 hi2;have hsome:∀j,j<c.ccs.length->(w.cell? ⟨g,i*14+3+j,none⟩).isSome=true:=fun j hj=>by have hj:j<10:=hj;obtain⟨⟨z,hz⟩,_⟩:=ko.any (i*14+3+j) (by omega);rw[hz];rfl
 obtain⟨s1,s2,s3,s4⟩:=zw8 c.ccs hsome;have hll:c.ccs.length=10:=rfl;have q:=h.putK (c:=c) (v:=uK[i]) hi1 s4 (fun j u hu=>?_) (fun j hj=>s2 j (by omega)) (fun j=>s3 _) (by rw[e4];exact (ko.own i hi1 hi2)) (fun b e=>.inl (by rw[List.getElem?_eq_getElem hi2];exact e)) (nrf _) h.top (h.rm _ (List.getElem_mem hi2))
 ·rw[List.set_getElem_self]at q;exact q
 ·have hj:j<14:=(List.getElem?_eq_some_iff.1 hu).1;by_cases a:j<3
  ·rw[s2 _ (.inl (by omega))];refine c0 j u ?_;rw[List.getElem?_append_left (by show j<13;omega)]at hu;match j,a,hu with
   | 0,_,hu=>rw[<-hu];show _=some (Value.int .i64 c.id);rw[e1];rfl| 1,_,hu=>rw[<-hu];show _=some (Value.int .i64 c.lf);rw[e2];rfl| 2,_,hu=>rw[<-hu];show _=some (Value.int .i64 c.pl);rw[e3];rfl
  ·by_cases b:j<13
   ·have:=s1 (j-3) u (by
     rw[List.getElem?_append_left (by show j<13;omega)]at hu;rw[<-hu];match j,a,b with
     | 3,_,_=>rfl| 4,_,_=>rfl| 5,_,_=>rfl| 6,_,_=>rfl| 7,_,_=>rfl| 8,_,_=>rfl| 9,_,_=>rfl| 10,_,_=>rfl| 11,_,_=>rfl| 12,_,_=>rfl| n+13,_,b=>omega)
    rw[show i*14+3+(j-3)=i*14+j by omega]at this;exact this
   ·have e:j=13:=(by omega);subst e;have:uK[i]=u:=osi hu;rw[<-this,s2 _ (.inr (by omega))];exact c1
theorem EOwn.twoCc{i:Nat}{f:Value}{w2:World}(h:EOwn w lo hi sT sO sP vL uL (.slice (some ⟨g,0,none⟩) K.length cap) uK T O P L K)(hi1:i<K.length)(hb:Below w.heap.size (w.setCell ⟨g,i*14+6,none⟩ f) w2)(c:Kn)(e1:c.id=K[i].id)(e2:c.lf=K[i].lf)(e3:c.pl=K[i].pl)(e4:c.xs=K[i].xs):
 EOwn (w2.setCells g (i*14+3) c.ccs) lo hi sT sO sP vL uL (.slice (some ⟨g,0,none⟩) (K.set i c).length cap) uK T O P L (K.set i c):=by
 obtain⟨hcap,ko,hl⟩:=h.ko (by omega);have hi2:i<uK.length:=by omega
 obtain⟨c0,c1⟩:=ko.got i hi1 hi2;have hgw:g<w.heap.size:=nlt ko.g1 ko.top;have cw:∀j,j≠i*14+6->w2.cell? ⟨g,j,none⟩=w.cell? ⟨g,j,none⟩:=fun j hj=>(hb.cell (p:=⟨g,j,none⟩) hgw).trans (World.cell?_setCell_other _ _ _ _ (fun e=>hj (by injection e with _ e _;exact e.symm)));have fw:∀j,w2.frozen? ⟨g,j,none⟩=w.frozen? ⟨g,j,none⟩:=fun j=>(hb.frozen (p:=⟨g,j,none⟩) hgw).trans (World.frozen?_setCell ..);have hsome:∀j,j<c.ccs.length->(w2.cell? ⟨g,i*14+3+j,none⟩).isSome=true:=fun j hj=>by
  have hj:j<10:=hj;obtain⟨⟨z,hz⟩,_⟩:=ko.any (i*14+3+j) (by omega);by_cases e:j=3
  ·subst e;rw[show w2.cell? ⟨g,i*14+3+3,none⟩=(w.setCell ⟨g,i*14+6,none⟩ f).cell? ⟨g,i*14+6,none⟩ from hb.cell (p:=⟨g,i*14+6,none⟩) hgw,zcq f hz];rfl
  ·rw[cw _ (by omega),hz];rfl
 obtain⟨s1,s2,s3,s4⟩:=zw8 c.ccs hsome;have hll:c.ccs.length=10:=rfl;have o1:Only g w (w.setCell ⟨g,i*14+6,none⟩ f):=(Only.refl _ w).setCell (p:=⟨g,i*14+6,none⟩) rfl _;have o2:Only g (w.setCell ⟨g,i*14+6,none⟩ f) w2:=⟨hb.os,hb.tape,hb.output,hb.size,fun k hk _=>hb.block k (by simpa using hk)⟩;have q:=h.putK (c:=c) (v:=uK[i]) hi1 ((o1.trans o2).trans s4) (fun j u hu=>?_) (fun j hj=>(s2 j (by omega)).trans (cw j (by omega))) (fun j=>(s3 _).trans (fw j)) (by rw[e4];exact (ko.own i hi1 hi2)) (fun b e=>.inl (by rw[List.getElem?_eq_getElem hi2];exact e)) (nrf _) h.top (h.rm _ (List.getElem_mem hi2))
 ·rw[List.set_getElem_self]at q;exact q
 ·have hj:j<14:=(List.getElem?_eq_some_iff.1 hu).1;by_cases a:j<3
  ·rw[s2 _ (.inl (by omega)),cw _ (by omega)];refine c0 j u ?_;rw[List.getElem?_append_left (by show j<13;omega)]at hu;match j,a,hu with
   | 0,_,hu=>rw[<-hu];show _=some (Value.int .i64 c.id);rw[e1];rfl| 1,_,hu=>rw[<-hu];show _=some (Value.int .i64 c.lf);rw[e2];rfl| 2,_,hu=>rw[<-hu];show _=some (Value.int .i64 c.pl);rw[e3];rfl
  ·by_cases b:j<13
   ·have:=s1 (j-3) u (by
     rw[List.getElem?_append_left (by show j<13;omega)]at hu;rw[<-hu];match j,a,b with
     | 3,_,_=>rfl| 4,_,_=>rfl| 5,_,_=>rfl| 6,_,_=>rfl| 7,_,_=>rfl| 8,_,_=>rfl| 9,_,_=>rfl| 10,_,_=>rfl| 11,_,_=>rfl| 12,_,_=>rfl| n+13,_,b=>omega)
    rw[show i*14+3+(j-3)=i*14+j by omega]at this;exact this
   ·have e:j=13:=(by omega);subst e;have:uK[i]=u:=osi hu;rw[<-this,s2 _ (.inr (by omega)),cw _ (by omega)];exact c1
theorem EOwn.setP{hi' i:Nat}{q d:Int}{xs:List Int}{v:Value}(h:EOwn w lo hi sT sO sP (.slice (some ⟨g,0,none⟩) L.length cap) uL vK uK T O P L K)(hi1:i<L.length)(hv:IO w lo hi' v xs)(hn:∀b,elB v=some b->uL[i]?.bind elB=some b\/¬inE sT sO sP (.slice (some ⟨g,0,none⟩) L.length cap) uL vK uK b)(h1:hi<=hi')(h2:hi'<=w.heap.size):
 EOwn (w.setCells g (i*3) [.int .i64 q,.int .i64 d,v]) lo hi' sT sO sP (.slice (some ⟨g,0,none⟩) (L.set i (q,d,xs)).length cap) (uL.set i v) vK uK T O P (L.set i (q,d,xs)) K:=by
 obtain⟨hcap,fo,hl⟩:=h.fo (by omega);have hi2:i<uL.length:=by omega
 have hne:uL≠[]:=fun e=>by rw[e]at hi2;cases hi2
 have hin:inV (.slice (some ⟨g,0,none⟩) L.length cap) uL g:=⟨hne,.inl rfl⟩;have hsome:∀j,j<[Value.int .i64 q,.int .i64 d,v].length->(w.cell? ⟨g,i*3+j,none⟩).isSome=true:=fun j hj=>by have hj:j<3:=hj;obtain⟨⟨z,hz⟩,_⟩:=fo.any (i*3+j) (by omega);rw[hz];rfl
 obtain⟨s1,s2,s3,s4⟩:=zw8 [Value.int .i64 q,.int .i64 d,v] hsome;obtain⟨w',hw'⟩:∃w',w'=w.setCells g (i*3) [.int .i64 q,.int .i64 d,v]:=⟨_,rfl⟩;rw[<-hw']at s1 s2 s3 s4 ⊢;have old:∀b,uL[i]?.bind elB=some b->elB uL[i]=some b:=fun b e=>by rw[List.getElem?_eq_getElem hi2]at e;exact e
 have mem:∀j (hj:j<uL.length) b,elB uL[j]=some b->inV (.slice (some ⟨g,0,none⟩) L.length cap) uL b:=fun j hj b e=>⟨hne,.inr ⟨_,List.getElem_mem hj,e⟩⟩;have hg:elB v≠some g:=fun e=>by
  rcases hn g e with q|q
  ·exact fo.far i hi2 (old g q)
  ·exact q (.inr (.inl hin))
 have hn':∀j (hj:j<uL.length),j≠i->∀b,elB v=some b->elB uL[j]≠some b:=fun j hj hne b e e'=>by
  rcases hn b e with q|q
  ·exact fo.apart i j hi2 hj (fun e=>hne e.symm) b (old b q) e'
  ·exact q (.inr (.inl (mem j hj b e')))
 have f':=fo.put hi1 q d xs s4 (s1 0 _ rfl) (s1 1 _ rfl) (s1 2 _ rfl) (fun j hj=>s2 j hj) (fun j=>s3 _) hv hg hn' h1 h2;have oP:OnlyP (fun b=>b=g) w w':=OnlyP.ofOnly s4 rfl;refine⟨h.l.onlyP oP (fun b e e'=>h.d1 b (.inl e) (by rw[e'];exact hin)) (fun b e e'=>h.d1 b (.inr (.inl e)) (by rw[e'];exact hin)) (fun b e e'=>h.d1 b (.inr (.inr e)) (by rw[e'];exact hin)),fun b hb=>nlt (h.lb b hb) h1,.inl ⟨g,cap,rfl,by rw[List.length_set];exact hcap,f'⟩,(h.k.onlyP oP (fun b e e'=>h.d3 g hin (by rw[<-e'];exact e))).wider (nrf _) h1 (ntr h2 s4.size),fun b hb hv'=>?_,h.d2,fun b hb hv'=>?_,ntr h2 s4.size,fun u hu=>(h.rm u hu).same (fun b e hb=>s4.block b hb (fun e'=>h.d3 g hin (by rw[<-e'];exact h.k.mem hu e)))⟩
 ·rcases zgq (n:=L.length) hv' with q|q
  ·exact h.d1 b hb q
  ·rcases hn b q with r|r
   ·exact h.d1 b hb (mem i hi2 b (old b r))
   ·exact r (.inl hb)
 ·rcases zgq (n:=L.length) hb with q|q
  ·exact h.d3 b q hv'
  ·rcases hn b q with r|r
   ·exact h.d3 b (mem i hi2 b (old b r)) hv'
   ·exact r (.inr (.inr hv'))
theorem EOwn.lend{hi' lo2:Nat}{sT' sO' sP':Value}{T' O' P':List Q4}(h:EOwn w lo hi sT sO sP vL uL vK uK T O P L K)(hl:LV w lo2 sT' sO' sP' T' O' P')(h1:lo<=lo2)(h2:hi<=lo2)(h3:hi<=hi')(h4:hi'<=w.heap.size)(hb:∀b,inL sT' sO' sP' b->b<hi'):EOwn w lo hi' sT' sO' sP' vL uL vK uK T' O' P' L K :=
 ⟨hl.lower h1,hb,h.p.wider (nrf _) h3 h4,h.k.wider (nrf _) h3 h4,fun b hb hv=>by have a1:=(hl.lo hb).1;have a2:=h.p.bd hv;omega,fun b hb hv=>by have a1:=(hl.lo hb).1;have a2:=h.k.bd hv;omega,h.d3,h4,h.rm⟩
theorem EOwn.con{i:Nat}(h:EOwn w lo hi sT sO sP vL uL (.slice (some ⟨g,0,none⟩) K.length cap) uK T O P L K)(hi1:i<K.length):w.cell? ⟨g,i*14,none⟩=some (.int .i64 K[i].id)/\w.cell? ⟨g,i*14+1,none⟩=some (.int .i64 K[i].lf)/\w.cell? ⟨g,i*14+2,none⟩=some (.int .i64 K[i].pl)/\w.cell? ⟨g,i*14+3,none⟩=some (.int .i64 K[i].k)/\w.cell? ⟨g,i*14+4,none⟩=some (.int .i64 K[i].wn)/\w.cell? ⟨g,i*14+5,none⟩=some (.int .i64 K[i].th)/\w.cell? ⟨g,i*14+6,none⟩=some (.int .i64 K[i].fl)/\w.cell? ⟨g,i*14+7,none⟩=some (.int .i64 K[i].ac)/\w.cell? ⟨g,i*14+8,none⟩=some (.int .i64 K[i].la)/\w.cell? ⟨g,i*14+9,none⟩=some (.int .i64 K[i].og)/\w.cell? ⟨g,i*14+10,none⟩=some (.int .i64 K[i].st)/\w.cell? ⟨g,i*14+11,none⟩=some (.int .i64 K[i].fr)/\w.cell? ⟨g,i*14+12,none⟩=some (.bool K[i].sl):=by obtain⟨_,ko,hl⟩:=h.ko (by omega);obtain⟨c0,_⟩:=ko.got i hi1 (by omega);exact⟨c0 0 _ rfl,c0 1 _ rfl,c0 2 _ rfl,c0 3 _ rfl,c0 4 _ rfl,c0 5 _ rfl,c0 6 _ rfl,c0 7 _ rfl,c0 8 _ rfl,c0 9 _ rfl,c0 10 _ rfl,c0 11 _ rfl,c0 12 _ rfl⟩
theorem EOwn.con13{i:Nat}(h:EOwn w lo hi sT sO sP vL uL (.slice (some ⟨g,0,none⟩) K.length cap) uK T O P L K)(hi1:i<K.length):∃sa sc,w.cell? ⟨g,i*14+13,none⟩=some (.slice sa K[i].xs.length sc)/\uK[i]?=some (.slice sa K[i].xs.length sc)/\Iw w sa K[i].xs:=by
 obtain⟨_,ko,hl⟩:=h.ko (by omega);have hi2:i<uK.length:=by omega
 obtain⟨_,c1⟩:=ko.got i hi1 hi2;obtain⟨a,c,e,_,s⟩:=(ko.own i hi1 hi2).smp;exact⟨a,c,by rw[<-e];exact c1,by rw[List.getElem?_eq_getElem hi2,e],s⟩
theorem EOwn.frz{i:Nat}(h:EOwn w lo hi sT sO sP vL uL (.slice (some ⟨g,0,none⟩) K.length cap) uK T O P L K)(hi1:i<K.length):w.frozen? ⟨g,i*14+3,none⟩=false/\w.frozen? ⟨g,i*14+4,none⟩=false/\w.frozen? ⟨g,i*14+5,none⟩=false/\w.frozen? ⟨g,i*14+6,none⟩=false/\w.frozen? ⟨g,i*14+7,none⟩=false/\w.frozen? ⟨g,i*14+8,none⟩=false/\w.frozen? ⟨g,i*14+9,none⟩=false/\w.frozen? ⟨g,i*14+10,none⟩=false/\w.frozen? ⟨g,i*14+11,none⟩=false/\w.frozen? ⟨g,i*14+12,none⟩=false/\w.frozen? ⟨g,i*14+13,none⟩=false:=by obtain⟨_,ko,hl⟩:=h.ko (by omega);exact⟨(ko.any (i*14+3) (by omega)).2,(ko.any (i*14+4) (by omega)).2,(ko.any (i*14+5) (by omega)).2,(ko.any (i*14+6) (by omega)).2,(ko.any (i*14+7) (by omega)).2,(ko.any (i*14+8) (by omega)).2,(ko.any (i*14+9) (by omega)).2,(ko.any (i*14+10) (by omega)).2,(ko.any (i*14+11) (by omega)).2,(ko.any (i*14+12) (by omega)).2,(ko.any (i*14+13) (by omega)).2⟩
theorem EOwn.plc{p:Nat}(h:EOwn w lo hi sT sO sP (.slice (some ⟨g,0,none⟩) L.length cap) uL vK uK T O P L K)(hp:p<L.length):w.cell? ⟨g,p*3,none⟩=some (.int .i64 L[p].1)/\w.cell? ⟨g,p*3+1,none⟩=some (.int .i64 L[p].2.1)/\(w.frozen? ⟨g,p*3,none⟩=false/\w.frozen? ⟨g,p*3+1,none⟩=false/\w.frozen? ⟨g,p*3+2,none⟩=false)/\∃sa sc,w.cell? ⟨g,p*3+2,none⟩=some (.slice sa L[p].2.2.length sc)/\uL[p]?=some (.slice sa L[p].2.2.length sc)/\Iw w sa L[p].2.2:=by
 obtain⟨_,fo,hl⟩:=h.fo (by omega);have hi2:p<uL.length:=by omega
 obtain⟨c0,c1,c2⟩:=fo.got p hp hi2;obtain⟨a,c,e,_,s⟩:=(fo.own p hp hi2).smp;exact⟨c0,c1,⟨(fo.any _ (by omega)).2,(fo.any _ (by omega)).2,(fo.any _ (by omega)).2⟩,a,c,by rw[<-e];exact c2,by rw[List.getElem?_eq_getElem hi2,e],s⟩
theorem EOwn.atL{n c:Nat}{a:Option Addr}(h:EOwn w lo hi sT sO sP (.slice a n c) uL vK uK T O P L K)(hl:0<L.length):∃gl,a=some ⟨gl,0,none⟩/\lo<=gl/\gl<w.heap.size/\inE sT sO sP (.slice a n c) uL vK uK gl:=by
 rcases h.p with⟨g',cap',e,hc,f⟩|⟨e,_⟩
 ·injection e with e1 e2 e3;subst e1;have hne:uL≠[]:=fun e=>(by have:=f.len;rw[e]at this;simp at this;omega);exact⟨g',rfl,f.g0,nlt f.g1 f.top,.inr (.inl ⟨hne,.inl rfl⟩)⟩
 ·rw[e]at hl;cases hl
theorem EOwn.atK{n c:Nat}{a:Option Addr}(h:EOwn w lo hi sT sO sP vL uL (.slice a n c) uK T O P L K)(hl:0<K.length):∃gk,a=some ⟨gk,0,none⟩/\lo<=gk/\gk<w.heap.size/\inE sT sO sP vL uL (.slice a n c) uK gk:=by
 rcases h.k with⟨g',cap',e,hc,f⟩|⟨e,_⟩
 ·injection e with e1 e2 e3;subst e1;have hne:uK≠[]:=fun e=>(by have:=f.len;rw[e]at this;simp at this;omega);exact⟨g',rfl,f.g0,nlt f.g1 f.top,.inr (.inr ⟨hne,.inl rfl⟩)⟩
 ·rw[e]at hl;cases hl
end
section
variable{now nx:Int}{T O P:List Q4}{L:List F8}{K:List Kn}
theorem zip(h:EgOk now nx T O P L K){i:Nat}(hi:i<K.length):∃p:Nat,K[i].pl=p/\p<L.length:=by have q:=h.con i hi;unfold zeh at q;simp only[bae]at q;have r:=q.1.1.1.1.2;unfold inQ at r;simp only[bae,decide_eq_true_eq]at r;exact⟨K[i].pl.toNat,by omega,by omega⟩
theorem z2n(h:EgOk now nx T O P L K){i:Nat}(hi:i<K.length):ccB K[i].k K[i].wn K[i].th K[i].fl K[i].ac K[i].la K[i].og K[i].st K[i].fr=true/\K[i].k≠3:=by have q:=h.con i hi;unfold zeh at q;simp only[bae,Bool.not_eq_true',decide_eq_false_iff_not]at q;exact⟨q.1.1.1.2,q.1.1.2⟩
end
theorem CpK.kx{w:World}{lo c n:Nat}{a:Option Addr}{G:List G14}{K:List Kn}(h:CpK w lo (.slice a n c) G K)(hn:n=K.length):KX w lo w.heap.size (.slice a n c) (G.map (·.2)) K:=by
 subst hn;rcases h.row.2 with⟨e,e2⟩|⟨g,cap',cur,e,_,_,hc,_⟩
 ·injection e with e1 _ e3;subst e1 e3;have hn:K=[]:=List.eq_nil_of_length_eq_zero e2;have hg:G=[]:=List.eq_nil_of_length_eq_zero (by rw[h.len];exact e2);subst hn hg;exact .inr ⟨rfl,rfl,none,0,rfl⟩
 ·injection e with e1 _ e3;subst e1 e3;exact .inl ⟨g,c,rfl,hc,h.ko⟩
theorem z2o{u:World}{lo lh ph dT dO dP dL dK:Nat}{bT bO bP bL bK:Option Addr}{T O P:List Q4}{L:List F8}{K:List Kn}{GK:List G14}(lv:LV u lo (.slice bT T.length dT) (.slice bO O.length dO) (.slice bP P.length dP) T O P)(lb:∀b,inL (.slice bT T.length dT) (.slice bO O.length dO) (.slice bP P.length dP) b->b<lh)(tv:TV u lh ph (.slice bL L.length dL) L)(ck:CpK u ph (.slice bK K.length dK) GK K)(hz:lo<=lh/\lh<=ph/\ph<=u.heap.size):
 ∃uL,EOwn u lo u.heap.size (.slice bT T.length dT) (.slice bO O.length dO) (.slice bP P.length dP) (.slice bL L.length dL) uL (.slice bK K.length dK) (GK.map (·.2)) T O P L K:=by
 obtain⟨uL,tx⟩:=tv.tx;have kx:=ck.kx rfl;have h1:=hz.1;have h2:=hz.2.1;have h3:=hz.2.2;exact⟨uL,lv,fun b hb=>by have:=lb b hb;omega,tx.wider h1 h3 (nrf _),kx.wider (by omega) (nrf _) (nrf _),
  fun b hb hv=>by have a1:=lb b hb;have a3:=tx.bd hv;omega,fun b hb hv=>by have a1:=lb b hb;have a3:=kx.bd hv;omega,fun b hb hv=>by have a1:=tx.bd hb;have a3:=kx.bd hv;omega,nrf _,ck.rm rfl kx⟩
theorem eoN{w w':World}{lo hi:Nat}{sT sO sP vL vK:Value}{uL uK:List Value}{T O P:List Q4}{L:List F8}{K:List Kn}(h:Hid (EOwn w lo hi sT sO sP vL uL vK uK T O P L K))(hb:Bw w w'):Hid (EOwn w' lo hi sT sO sP vL uL vK uK T O P L K):=h.out.next hb
theorem CpK.renew{w w':World}{lo:Nat}{v v':Value}{G G':List G14}{K K':List Kn}(h:CpK w lo v G K)(hr:w'.ownsRow lo 47 14 v' K'.length (zbl G'))(hf:G'.map Prod.fst=K')(keep:∀j (hj:j<G.length),w'.ownsRow lo 2 1 G[j].2 G[j].1.xs.length (zbc G[j].1.xs))(sub:∀i (hi:i<G'.length),(∃j,∃hj:j<G.length,G'[i]=G[j])\/(G'[i].2=.slice none 0 0/\G'[i].1.xs=[]))(inj:∀i j (hi:i<G'.length) (hj:j<G'.length),i≠j->∀b,G'[i].2.ownBlock=some b->G'[j].2.ownBlock≠some b)(hs:w.heap.size<=w'.heap.size):CpK w' lo v' G' K':=by
 refine⟨hr,hf,fun i hi=>?_,fun i hi b e=>⟨?_,fun j hj hne=>inj i j hi hj (fun e=>hne e.symm) b e⟩,fun i hi=>?_⟩;rotate_left 2
 ·rcases sub i hi with⟨j,hj,e⟩|⟨e1,_⟩
  ·rw[e];exact h.z j hj
  ·rw[e1];exact fun _=>⟨none,rfl⟩
 ·rcases sub i hi with⟨j,hj,e⟩|⟨e1,e2⟩
  ·rw[e];exact keep j hj
  ·rw[e1,e2];exact⟨rfl,.inl ⟨rfl,rfl⟩⟩
 ·rcases sub i hi with⟨j,hj,e1⟩|⟨e1,e2⟩
  ·rw[e1]at e;exact nlt (h.sep j hj b e).1 hs
  ·rw[e1]at e;cases e
theorem zwc(G:List G14)(i:Nat):(zbl G).drop (i*14)=zbl (G.drop i):=by
 have e:zbl G=zbl (G.take i) ++ zbl (G.drop i):=by rw[<-zff,List.take_append_drop]
 by_cases h:i<=G.length
 ·rw[e,List.drop_append_of_le_length (by rw[zas,List.length_take];omega),List.drop_eq_nil_of_le (by rw[zas,List.length_take];omega),List.nil_append]
 ·rw[List.drop_eq_nil_of_le (by rw[zas];omega),List.drop_eq_nil_of_le (by omega)];rfl
def zdc{α:Type}(l:List α)(i:Nat)(x:α):List α:=l.take i ++ x :: l.drop i
theorem zdk{α:Type}(l:List α)(i:Nat)(x:α):(zdc l i x).length=l.length+1:=by unfold zdc;rw[List.length_append,List.length_cons,List.length_take,List.length_drop];omega
theorem zyi{α β:Type}(f:α->β)(l:List α)(i:Nat)(x:α):(zdc l i x).map f=zdc (l.map f) i (f x):=by unfold zdc;rw[List.map_append,List.map_cons,List.map_take,List.map_drop]
theorem zf5{α:Type}{l:List α}{i:Nat}{x:α}(hi:i<=l.length){k:Nat}(hk:k<(zdc l i x).length):
 (k<i/\∃h:k<l.length,(zdc l i x)[k]=l[k])\/(k=i/\(zdc l i x)[k]=x)\/(i<k/\∃h:k-1<l.length,(zdc l i x)[k]=l[k-1]):=by
 have hl:=zdk l i x;have ht:(l.take i).length=i:=by rw[List.length_take];omega
 rcases Nat.lt_trichotomy k i with h|h|h
 ·refine .inl ⟨h,by omega,?_⟩;simp only[zdc];rw[List.getElem_append_left (by omega),List.getElem_take]
 ·subst h;refine .inr (.inl ⟨rfl,?_⟩);simp only[zdc];rw[List.getElem_append_right (by omega)];simp[ht]
 ·refine .inr (.inr ⟨h,by omega,?_⟩);have:(zdc l i x)[k]?=l[k-1]?:=(by unfold zdc;rw[List.getElem?_append_right (by omega),ht,show k-i=(k-1-i)+1 by omega,List.getElem?_cons_succ,List.getElem?_drop];congr 1;omega);rw[List.getElem?_eq_getElem hk,List.getElem?_eq_getElem (by omega)]at this;exact osi this
theorem zyj(G:List G14)(i:Nat)(x:G14):zbl (zdc G i x)=zbl (G.take i) ++ (zgt x ++ zbl (G.drop i)):=by unfold zdc;rw[zff];rfl
theorem CpK.insert{w w':World}{lo:Nat}{v v':Value}{G:List G14}{K:List Kn}(h:CpK w lo v G K){i:Nat}(hi:i<=K.length)(c:Kn)(hc:c.xs=[])(hr:w'.ownsRow lo 47 14 v' (K.length+1) (zbl (zdc G i (c,.slice none 0 0))))(keep:∀j (hj:j<G.length),w'.ownsRow lo 2 1 G[j].2 G[j].1.xs.length (zbc G[j].1.xs))(hs:w.heap.size<=w'.heap.size):CpK w' lo v' (zdc G i (c,.slice none 0 0)) (zdc K i c):=by
 have hl:=h.len;refine h.renew (by rw[zdk];exact hr) (by rw[zyi,h.fst]) keep (fun k hk=>?_) (fun j k hj hk hne b e e'=>?_) hs
 ·rcases zf5 (by omega) hk with⟨_,hj,e⟩|⟨_,e⟩|⟨_,hj,e⟩
  ·exact .inl ⟨_,hj,e⟩
  ·exact .inr ⟨by rw[e],by rw[e];exact hc⟩
  ·exact .inl ⟨_,hj,e⟩
 ·rcases zf5 (by omega) hj with⟨q1,h1,e1⟩|⟨_,e1⟩|⟨q1,h1,e1⟩
  ·rw[e1]at e;rcases zf5 (by omega) hk with⟨q2,h2,e2⟩|⟨_,e2⟩|⟨q2,h2,e2⟩
   ·rw[e2]at e';exact (h.sep j h1 b e).2 k h2 (fun e3=>hne e3.symm) e'
   ·rw[e2]at e';cases e'
   ·rw[e2]at e';exact (h.sep j h1 b e).2 (k-1) h2 (by omega) e'
  ·rw[e1]at e;cases e
  ·rw[e1]at e;rcases zf5 (by omega) hk with⟨q2,h2,e2⟩|⟨_,e2⟩|⟨q2,h2,e2⟩
   ·rw[e2]at e';exact (h.sep (j-1) h1 b e).2 k h2 (by omega) e'
   ·rw[e2]at e';cases e'
   ·rw[e2]at e';exact (h.sep (j-1) h1 b e).2 (k-1) h2 (by omega) e'
def zpp(id lf pl kd:Int):Kn:={ id:=id,lf:=lf,pl:=pl,k:=kd,wn:=15000,th:=1000000000,fl:=0,ac:=0,la:=0,og:=0,st:=0,fr:=0,sl:=true,xs:=[] }
def opnP(L:List F8)(p:Nat)(id:Int):F8:=match L[p]? with
 | some f=>(f.1,f.2.1,zj6 f.2.2 id)| none=>(0,0,[])
theorem zyk{L:List F8}{p:Nat}(h:p<L.length)(id:Int):opnP L p id=(L[p].1,L[p].2.1,zj6 L[p].2.2 id):=by unfold opnP;rw[List.getElem?_eq_getElem h]
theorem zlh{now nx:Int}{T O P:List Q4}{L:List F8}{K:List Kn}(h:EgOk now nx T O P L K){p:Nat}(hp:p<L.length):L[p].2.2.length<=40:=by rw[(h.pl p hp).2.2,zbt];exact ntr (zuh _ _) h.k1
theorem zyl{K:List Kn}{id:Int}(h:fK K id = -1):∀i (hi:i<K.length),K[i].id≠id:=fun i hi e=>by have:K.findIdx (fun c=>c.id == id)<K.length:=List.findIdx_lt_length.2 ⟨K[i],List.getElem_mem hi,by simp[e]⟩;unfold fK at h;rw[if_pos this]at h;omega
theorem zym{now nx:Int}{T O P:List Q4}{L:List F8}{K:List Kn}(h:EgOk now nx T O P L K){p:Nat}(hp:p<L.length){id:Int}(hf:fK K id = -1):hasI id L[p].2.2=false:=by unfold hasI;rw[(h.pl p hp).2.2];refine decide_eq_false (fun hm=>?_);obtain⟨c,hc,e⟩:=List.mem_map.1 hm;obtain⟨i,hi,rfl⟩:=List.mem_iff_getElem.1 (List.mem_filter.1 hc).1;exact zyl hf i hi e
structure PosK (K:List Kn) (id:Int) (i:Nat):Prop where
 le:i<=K.length
 lo:∀k (h:k<K.length),k<i->K[k].id<id
 hi:∀k (h:k<K.length),i<=k->id<K[k].id
theorem z1b:∀(K:List Kn) (id:Int),(∀i (h:i<K.length) (h':i+1<K.length),K[i].id<K[i+1].id)->(∀i (h:i<K.length),K[i].id≠id)->∃i,PosK K id i
 | [],id,_,_=>⟨0,nrf _,(fun k h=>by cases h),(fun k h=>by cases h)⟩
 | c :: r,id,hr,hn=>by
  obtain⟨i,h⟩:=z1b r id (fun i h h'=>by have:=hr (i+1) (by simpa using h) (by simpa using h');simpa using this) (fun i h=>by have:=hn (i+1) (by simpa using h);simpa using this);by_cases hc:c.id<id
  ·refine⟨i+1,by have:=h.le;simpa using this,fun k hk hki=>?_,fun k hk hki=>?_⟩
   ·cases k with
    | zero=>exact hc| succ k=>simpa using h.lo k (by simpa using hk) (by omega)
   ·cases k with
    | zero=>omega| succ k=>simpa using h.hi k (by simpa using hk) (by omega)
  ·have hc':id<c.id:=(by have:=hn 0 (by simp);have e:(c :: r)[0].id=c.id:=rfl;rw[e]at this;omega);have rise:∀k (hk:k<(c :: r).length),id<(c :: r)[k].id:=by
    intro k;induction k with
    | zero=>intro _;exact hc'| succ k ih=>intro hk;have:=ih (by omega);have:=hr k (by omega) hk;omega
   exact⟨0,Nat.zero_le _,fun k hk hki=>by omega,fun k hk _=>rise k hk⟩
theorem zk8{w w':World}{lo hi lo' hi' g:Nat}{sT sO sP vL vK:Value}{T O P:List Q4}{L:List F8}{K:List Kn}(h:Eng w lo hi sT sO sP vL vK T O P L K)(o:Only g w w')(hg:g<lo)(hl:lo'<=lo)(hh:hi<=hi'):Eng w' lo' hi' sT sO sP vL vK T O P L K:=(h.only o (.inl hg)).wider hl hh
section
variable{now nx:Int}{T O P:List Q4}{L:List F8}{K:List Kn}
theorem zcg(h:EgOk now nx T O P L K):(1<=T.length/\T.length<=30)/\(1<=O.length/\O.length<=30)/\(1<=P.length/\P.length<=30):=by have hl:=zbo h.lend;have a:=hl.tree.l0;have b:=hl.tree.l1;have c:=hl.lo;have d:=hl.lp;omega
theorem ztb(h:EgOk now nx T O P L K):0<=now/\now<=1000000000000000:=by have q:=zf4 h.lend;rw[h.at']at q;unfold zba at q;simp only[bae,decide_eq_true_eq]at q;exact q
end
section
variable{w:World}(now nx:Int){aT aO aP aL aK:Option Addr}(cT cO cP cL cK:Nat){T O P:List Q4}{L:List F8}{K:List Kn}(ns:Int)
theorem ztc(hT:Qw w aT T)(hO:Qw w aO O)(hP:Qw w aP P)(hL:Fw w aL L)(hK:Kw w aK K)(mT:T.length<=1048576)(mL:L.length<=1048576)(sL:∀f ∈ L,f.2.2.length<=1048576)(mK:K.length<=1048576)(sK:∀c ∈ K,c.xs.length<=1048576)(h1:zck now nx T O P L K=true)(h2:zba ns=false):Calls Tryz.prog 31 #[zcf now aT T.length cT aO O.length cO aP P.length cP aL L.length cL aK K.length cK nx,.int .i64 ns] w (zbf w now nx T O P L K (.int .i64 7)):=by have sKm:=zix sK;obtain⟨nT,nO,nP⟩:=zcg (zax h1);obtain⟨v,hv,nb,L0,L1⟩:=preE w 31 now aT T.length cT aO O.length cO aP P.length cP aL L.length cL aK K.length cK nx;have hw1:=L1.lt;go_enter Tryz.func31,Tryz.ntmps31;go_upto_region 1 with (fail);rw[<-hv];clear hv;obtain⟨q0,q1,q2,q3,q4,q5,q6⟩:=L0.c7;go_wp2_with (first|(go_at_call 40;refine (za3 cT cO cP cL cK h1 (hT.here nb) (hO.here nb) (hP.here nb) (hL.here nb) (hK.here nb) mT mL mK sKm).mono ?_;rintro e v2 ⟨rfl,hb2⟩;have b2:=zaa nb hb2;have M0:=L0.next hb2;have M1:=L1.next hb2;clear q0 q1 q2 q3 q4 q5 q6;obtain⟨q0,q1,q2,q3,q4,q5,q6⟩:=M0.c7;skip)|(go_at_call 47;refine (zct now nx cT cO cP cL cK (hT.here b2) (hO.here b2) (hP.here b2) (hL.here b2) (hK.here b2) nT nO nP mL sL mK sK 7 (by decide)).mono ?_;rintro e u1 ⟨bT,dT,bO,dO,bP,dP,bL,dL,bK,dK,rfl,eg,hb1⟩;have HEG:Hid (Eng u1 v2.heap.size u1.heap.size (.slice bT T.length dT) (.slice bO O.length dO) (.slice bP P.length dP) (.slice bL L.length dL) (.slice bK K.length dK) T O P L K):=eg;have LU:=M1.next hb1;obtain⟨z0,z1,z2,z3,z4,z5,z6⟩:=LU.c7;have fz:=LU.free)|(go_at_call 89;refine same1 (zcl h2 _) ?_));obtain⟨u,hu',ou,U⟩:=stE (b:=w.heap.size+1) LU now bT T.length dT bO O.length dO bP P.length dP bL L.length dL bK K.length dK nx;rw[hu'];clear hu';have zu:=ou.size;have bw:=zaa b2 hb1;have zb:=b2.size;have z2:=hb2.size;refine bodyPost_ret (zah rfl _ _ _ _ rfl U.cell Tryz.underlying31 rfl (by kernel_rfl)) rfl ?_;exact⟨bT,dT,bO,dO,bP,dP,bL,dL,bK,dK,rfl,zk8 HEG.out ou (by omega) (by omega) ou.size,bw.trans (ou.below (by omega) bw.size)⟩
theorem ztd(hT:Qw w aT T)(hO:Qw w aO O)(hP:Qw w aP P)(hL:Fw w aL L)(hK:Kw w aK K)(mT:T.length<=1048576)(mL:L.length<=1048576)(sL:∀f ∈ L,f.2.2.length<=1048576)(mK:K.length<=1048576)(sK:∀c ∈ K,c.xs.length<=1048576)(h1:zck now nx T O P L K=true)(h2:zba ns=true)(h3:1000000000000000<now+ns):Calls Tryz.prog 31 #[zcf now aT T.length cT aO O.length cO aP P.length cP aL L.length cL aK K.length cK nx,.int .i64 ns] w (zbf w now nx T O P L K (.int .i64 7)):=by
 have sKm:=zix sK;obtain⟨nT,nO,nP⟩:=zcg (zax h1);have hnow:=ztb (zax h1);have hns:0<=ns/\ns<=1000000000000000:=by unfold zba at h2;simp only[bae,decide_eq_true_eq]at h2;exact h2
 have hwn:IntKind.i64.wrap (now+ns)=now+ns:=i64w
 obtain⟨v,hv,nb,L0,L1⟩:=preE w 31 now aT T.length cT aO O.length cO aP P.length cP aL L.length cL aK K.length cK nx;have hw1:=L1.lt;go_enter Tryz.func31,Tryz.ntmps31;go_upto_region 1 with (fail);rw[<-hv];clear hv;obtain⟨q0,q1,q2,q3,q4,q5,q6⟩:=L0.c7;go_wp2_with (first|(go_at_call 40;refine (za3 cT cO cP cL cK h1 (hT.here nb) (hO.here nb) (hP.here nb) (hL.here nb) (hK.here nb) mT mL mK sKm).mono ?_;rintro e v2 ⟨rfl,hb2⟩;have b2:=zaa nb hb2;have M0:=L0.next hb2;have M1:=L1.next hb2;clear q0 q1 q2 q3 q4 q5 q6;obtain⟨q0,q1,q2,q3,q4,q5,q6⟩:=M0.c7;skip)|(go_at_call 47;refine (zct now nx cT cO cP cL cK (hT.here b2) (hO.here b2) (hP.here b2) (hL.here b2) (hK.here b2) nT nO nP mL sL mK sK 7 (by decide)).mono ?_;rintro e u1 ⟨bT,dT,bO,dO,bP,dP,bL,dL,bK,dK,rfl,eg,hb1⟩;have HEG:Hid (Eng u1 v2.heap.size u1.heap.size (.slice bT T.length dT) (.slice bO O.length dO) (.slice bP P.length dP) (.slice bL L.length dL) (.slice bK K.length dK) T O P L K):=eg;have LU:=M1.next hb1;obtain⟨z0,z1,z2,z3,z4,z5,z6⟩:=LU.c7;have fz:=LU.free)|(go_at_call 89;refine same1 (zcl h2 _) ?_));obtain⟨u,hu',ou,U⟩:=stE (b:=w.heap.size+1) LU now bT T.length dT bO O.length dO bP P.length dP bL L.length dL bK K.length dK nx;rw[hu'];clear hu';have zu:=ou.size;have bw:=zaa b2 hb1;have zb:=b2.size;have z2:=hb2.size;refine bodyPost_ret (zah rfl _ _ _ _ rfl U.cell Tryz.underlying31 rfl (by kernel_rfl)) rfl ?_;exact⟨bT,dT,bO,dO,bP,dP,bL,dL,bK,dK,rfl,zk8 HEG.out ou (by omega) (by omega) ou.size,bw.trans (ou.below (by omega) bw.size)⟩
end
theorem z2p{x:World}{lo gT dT gO dO gP dP:Nat}{T O P:List Q4}(t:x.ownsRow lo 110 4 (.slice (some ⟨gT,0,none⟩) T.length dT) T.length (za5 T))(o:x.ownsRow lo 53 4 (.slice (some ⟨gO,0,none⟩) O.length dO) O.length (za5 O))(p:x.ownsRow lo 53 4 (.slice (some ⟨gP,0,none⟩) P.length dP) P.length (za5 P))(h:gO≠gP):LV x lo (.slice (some ⟨gT,0,none⟩) T.length dT) (.slice (some ⟨gO,0,none⟩) O.length dO) (.slice (some ⟨gP,0,none⟩) P.length dP) T O P :=
 ⟨zek t,zek o,zek p,fun b e e'=>zbv t o (by decide) b (za6 e) (za6 e'),fun b e e'=>zbv t p (by decide) b (za6 e) (za6 e'),fun b e e'=>h (by have h1:gO=b:=osi (za6 e);have h2:gP=b:=osi (za6 e');rw[h1,h2])⟩
theorem zwd{w:World}(now nx:Int){aT aO aP aL aK:Option Addr}(cT cO cP cL cK:Nat){T O P:List Q4}{L:List F8}{K:List Kn}(ns:Int)(hT:Qw w aT T)(hO:Qw w aO O)(hP:Qw w aP P)(hL:Fw w aL L)(hK:Kw w aK K)(mT:T.length<=1048576)(mL:L.length<=1048576)(sL:∀f ∈ L,f.2.2.length<=1048576)(mK:K.length<=1048576)(sK:∀c ∈ K,c.xs.length<=1048576)(h1:zck now nx T O P L K=true)(h2:zba ns=true)(h3:¬1000000000000000<now+ns):Calls Tryz.prog 31 #[zcf now aT T.length cT aO O.length cO aP P.length cP aL L.length cL aK K.length cK nx,.int .i64 ns] w (zbf w (now+ns) nx T (za1 (now+ns) O) (za1 (now+ns) P) L K (.int .i64 0)):=by
 have sKm:=zix sK;have eg:=zax h1;obtain⟨nT,nO,nP⟩:=zcg eg;have hnow:=ztb eg;have hil:=zbo eg.lend;have hlo:=hil.lo;have hlp:=hil.lp;have okO:∀k (h:k<O.length),zle O[k]=true:=fun k h=>(zg1 (hil.pair k (by omega) h (by omega))).oka;have okP:∀k (h:k<P.length),zle P[k]=true:=fun k h=>(zg1 (hil.pair k (by omega) (by omega) h)).okb;have hns:0<=ns/\ns<=1000000000000000:=by unfold zba at h2;simp only[bae,decide_eq_true_eq]at h2;exact h2
 have htn:zba (now+ns)=true:=by unfold zba;simp only[bae,decide_eq_true_eq];omega
 have hwn:IntKind.i64.wrap (now+ns)=now+ns:=i64w
 obtain⟨n',hn'⟩:∃n',now+ns=n':=⟨_,rfl⟩;rw[hn']at htn h3 hwn ⊢;have hwn:IntKind.i64.wrap (now+ns)=n':=by rw[hn'];exact hwn
 have HN:Hid (now+ns=n'):=hn';have h3':¬1000000000000000<now+ns:=by rw[hn'];exact h3
 have HLO:Hid (O.length=T.length):=hlo;have HLP:Hid (P.length=T.length):=hlp;have HOO:Hid (∀k (h:k<O.length),zle O[k]=true):=okO;have HOP:Hid (∀k (h:k<P.length),zle P[k]=true):=okP;clear eg hil hnow hns hn' hlo hlp okO okP;obtain⟨v,hv,nb,L0,L1⟩:=preE w 31 now aT T.length cT aO O.length cO aP P.length cP aL L.length cL aK K.length cK nx;have hw1:=L1.lt;go_enter Tryz.func31,Tryz.ntmps31;go_upto_region 1 with (fail);rw[<-hv];clear hv;obtain⟨q0,q1,q2,q3,q4,q5,q6⟩:=L0.c7;go_upto_region 6 with (first|(go_at_call 40;refine (za3 cT cO cP cL cK h1 (hT.here nb) (hO.here nb) (hP.here nb) (hL.here nb) (hK.here nb) mT mL mK sKm).mono ?_;rintro e v2 ⟨rfl,hb2⟩;have b2:=zaa nb hb2;have M0:=L0.next hb2;have M1:=L1.next hb2;clear q0 q1 q2 q3 q4 q5 q6;obtain⟨q0,q1,q2,q3,q4,q5,q6⟩:=M0.c7;skip)|(go_at_call 52;refine (zcw now nx cT cO cP cL cK (hT.here b2) (hO.here b2) (hP.here b2) (hL.here b2) (hK.here b2) nT nO nP mL sL mK sK).mono ?_;rintro e u1 ⟨bT,dT,bO,dO,bP,dP,bL,dL,bK,dK,GK,lh,ph,rfl,lv,lb,tv,ck,hz,hb1⟩)|(go_at_call 89;refine same1 (zcl h2 _) ?_));obtain⟨x,hx,LX,bx⟩:=newE u1 31 now bT T.length dT bO O.length dO bP P.length dP bL L.length dL bK K.length dK nx;rw[<-hx];clear hx;have X0:=(M0.next hb1).next bx;have X1:=(M1.next hb1).next bx;have k0:x.cell? ⟨w.heap.size,0,none⟩=some (.int .i64 now):=X0.cell 0 _ rfl;have j0:x.cell? ⟨u1.heap.size,0,none⟩=some (.int .i64 now):=LX.cell 0 _ rfl;have jf:=LX.free;have z1:=hb1.size;have zx:=bx.size;have zb:=b2.size;have z2:=hb2.size;have hlx:=LX.lt;go_upto_region 7 with (fail);obtain⟨x2,hx2⟩:∃y,y=x.setCell ⟨u1.heap.size,0,none⟩ (.int .i64 n'):=⟨_,rfl⟩;rw[<-hx2];have o2:Only u1.heap.size x x2:=by rw[hx2];exact (Only.refl _ x).setCell (p:=⟨u1.heap.size,0,none⟩) rfl _
 have L2:Lay x2 u1.heap.size [.int .i64 n',.slice bT T.length dT,.slice bO O.length dO,.slice bP P.length dP,.slice bL L.length dL,.slice bK K.length dK,.int .i64 nx]:=by rw[hx2];exact LX.put (p:=[]) (q:=[.int .i64 now]) (r:=[.slice bT T.length dT,.slice bO O.length dO,.slice bP P.length dP,.slice bL L.length dL,.slice bK K.length dK,.int .i64 nx]) [.int .i64 n'] rfl
 clear hx2 k0 j0 jf;have b12:Bw u1 x2:=bx.trans (o2.below (nrf _) zx);have X12:=X1.only o2 (by omega);have QT:=(lv.t.quad).2.here b12;have QO:=(lv.o.quad).2.here b12;have QP:=(lv.p.quad).2.here b12;have zo2:=o2.size;obtain⟨i0,i1,i2,i3,i4,i5,i6⟩:=L2.c7;have jf:=L2.free;go_upto_region 8 with (first|(go_at_call 90;refine (zje dT dO dP n' QT QO QP nT HLO.out HLP.out htn HOO.out HOP.out).mono ?_;rintro e y ⟨gT,eT,gO,eO,gP,eP,rfl,rT,rO,rP,hne,hby⟩;have L3:=L2.next hby;obtain⟨m0,m1,m2,m3,m4,m5,m6⟩:=L3.c7;have mf:=L3.free));obtain⟨z,hzz⟩:∃nw,nw=y.setCells u1.heap.size 1 [.slice (some ⟨gT,0,none⟩) T.length eT,.slice (some ⟨gO,0,none⟩) (za1 n' O).length eO,.slice (some ⟨gP,0,none⟩) (za1 n' P).length eP]:=⟨_,rfl⟩;have hz':(((y.setCell ⟨u1.heap.size,1,none⟩ (.slice (some ⟨gT,0,none⟩) T.length eT)).setCell ⟨u1.heap.size,2,none⟩ (.slice (some ⟨gO,0,none⟩) (za1 n' O).length eO)).setCell ⟨u1.heap.size,3,none⟩ (.slice (some ⟨gP,0,none⟩) (za1 n' P).length eP))=z:=hzz.symm;rw[hz'];clear hz';have oz:Only u1.heap.size y z:=by rw[hzz];exact zav _ _ _
 have LZ:Lay z u1.heap.size [.int .i64 n',.slice (some ⟨gT,0,none⟩) T.length eT,.slice (some ⟨gO,0,none⟩) (za1 n' O).length eO,.slice (some ⟨gP,0,none⟩) (za1 n' P).length eP,.slice bL L.length dL,.slice bK K.length dK,.int .i64 nx]:=by rw[hzz];exact L3.put (p:=[.int .i64 n']) (q:=[.slice bT T.length dT,.slice bO O.length dO,.slice bP P.length dP]) (r:=[.slice bL L.length dL,.slice bK K.length dK,.int .i64 nx]) [.slice (some ⟨gT,0,none⟩) T.length eT,.slice (some ⟨gO,0,none⟩) (za1 n' O).length eO,.slice (some ⟨gP,0,none⟩) (za1 n' P).length eP] rfl
 clear hzz m0 m1 m2 m3 m4 m5 m6 mf;have zy:=hby.size;have zoz:=oz.size;have Bz:Bw u1 z:=(zaa b12 hby).trans (oz.below (nrf _) (by omega));have ZR:=(X12.next hby).only oz (by omega);obtain⟨s0,s1,s2,s3,s4,s5,s6⟩:=LZ.c7;obtain⟨r0,r1,r2,r3,r4,r5,r6⟩:=ZR.c7;have fz:=ZR.free;go_wp2;obtain⟨u,hu',ou,U⟩:=st7 (b:=w.heap.size+1) ZR (.int .i64 n') (.slice (some ⟨gT,0,none⟩) T.length eT) (.slice (some ⟨gO,0,none⟩) (za1 n' O).length eO) (.slice (some ⟨gP,0,none⟩) (za1 n' P).length eP) (.slice bL L.length dL) (.slice bK K.length dK) (.int .i64 nx);rw[hu'];clear hu';have zu:=ou.size;have hz1:=hz.1;have hz2:=hz.2.1;have hz3:=hz.2.2;have rT':=zcs (zcs rT oz (by omega)) ou (by omega);have rO':=zcs (zcs rO oz (by omega)) ou (by omega);have rP':=zcs (zcs rP oz (by omega)) ou (by omega);have lu:=z2p rT' rO' rP' hne;have tu:TV u lh ph (.slice bL L.length dL) L:=(tv.same Bz.size (fun b a1 a2 a3=>Bz.block b a3)).same ou.size (fun b a1 a2 a3=>ou.block b a3 (by omega));have ku:KV u ph u1.heap.size (.slice bK K.length dK) K:=((ck.kv rfl).next Bz).same ou.size (fun b a1 a2 a3=>ou.block b a3 (by omega));have bwz:Bw w z:=(zaa b2 hb1).trans (Bz.mono (by omega));refine bodyPost_ret (zah rfl _ _ _ _ rfl U.cell Tryz.underlying31 rfl (by kernel_rfl)) rfl ?_;refine⟨_,eT,_,eO,_,eP,bL,dL,bK,dK,rfl,?_,bwz.trans (ou.below (by omega) bwz.size)⟩;exact Eng.ofI (hrm:=fun _ _ _ kx=>((ck.next Bz).only1 ou (by omega)).rm rfl kx) ⟨x2.heap.size,y.heap.size,lh,ph,ph,u1.heap.size,⟨by omega,by omega,by omega⟩,⟨by omega,by omega,by omega⟩,lu,(fun b hb=>by rcases hb with e|e|e;exact (rT.lt b (za6 e)).2;exact (rO.lt b (za6 e)).2;exact (rP.lt b (za6 e)).2),tu,ku,.inr (by omega),.inr (by omega),.inl (nrf _),by omega,by omega,by omega⟩
section
variable {w w':World} {lo hi:Nat} {sT sO sP vL vK:Value} {k:Int} {T O P:List Q4} {L:List F8} {K:List Kn}
theorem zf9(h:Hid (Eng w lo hi sT sO sP vL vK T O P L K))(hb:Bw w w'):Hid (Eng w' lo hi sT sO sP vL vK T O P L K):=Eng.next h.out hb
end
structure Small (T O P:List Q4) (L:List F8) (K:List Kn):Prop where
 t:T.length<=1000
 o:O.length<=1000
 p:P.length<=1000
 l:L.length<=100
 lm:∀f ∈ L,f.2.2.length<=1000
 k:K.length<=100
 km:∀c ∈ K,c.xs.length<=1000
theorem zrj:Small [] [] [] [] []:=⟨by simp,by simp,by simp,by simp,(fun f hf=>by cases hf),by simp,(fun f hf=>by cases hf)⟩
theorem zof{T:List Q4}{n:Nat}{c:Kn}(h:zeh T n c=true):c.xs.length<=100:=by unfold zeh at h;simp only[bae,decide_eq_true_eq]at h;exact h.1.2
theorem zpd{now nx:Int}{T O P:List Q4}{L:List F8}{K:List Kn}(h:EgOk now nx T O P L K):Small T O P L K:=by
 obtain⟨nT,nO,nP⟩:=zcg h;have l1:=h.l1;have k1:=h.k1;refine⟨by omega,by omega,by omega,by omega,fun f hf=>?_,by omega,fun c hc=>?_⟩
 ·obtain⟨i,hi,rfl⟩:=List.mem_iff_getElem.1 hf;have q:=(h.pl i hi).2.2;rw[q,zbt];have:=zuh K (i:Int);omega
 ·obtain⟨i,hi,rfl⟩:=List.mem_iff_getElem.1 hc;have:=zof (h.con i hi);omega
section
variable{T O P:List Q4}{L:List F8}{K:List Kn}
theorem Small.setK(h:Small T O P L K){i:Nat}{c:Kn}(hc:c.xs.length<=1000):Small T O P L (K.set i c) :=
 ⟨h.t,h.o,h.p,h.l,h.lm,by rw[List.length_set];exact h.k,fun x hx=>by
  rcases List.mem_or_eq_of_mem_set hx with q|q
  ·exact h.km x q
  ·rw[q];exact hc⟩
theorem Small.setL(h:Small T O P L K){i:Nat}{f:F8}(hc:f.2.2.length<=1000):Small T O P (L.set i f) K :=
 ⟨h.t,h.o,h.p,by rw[List.length_set];exact h.l,fun x hx=>by
  rcases List.mem_or_eq_of_mem_set hx with q|q
  ·exact h.lm x q
  ·rw[q];exact hc,h.k,h.km⟩
end
section
variable{w:World}(now nx:Int){aT aO aP aL aK:Option Addr}(cT cO cP cL cK:Nat){T O P:List Q4}{L:List F8}{K:List Kn}(id n:Int)
theorem zwe(hT:Qw w aT T)(hO:Qw w aO O)(hP:Qw w aP P)(hL:Fw w aL L)(hK:Kw w aK K)(mT:T.length<=1048576)(mL:L.length<=1048576)(sL:∀f ∈ L,f.2.2.length<=1048576)(mK:K.length<=1048576)(sK:∀c ∈ K,c.xs.length<=1048576)(h1:zck now nx T O P L K=true)(hf:fK K id = -1):Calls Tryz.prog 19 #[zcf now aT T.length cT aO O.length cO aP P.length cP aL L.length cL aK K.length cK nx,.int .i64 id,.int .i64 n] w (zbf w now nx T O P L K (.int .i64 2)):=by have sKm:=zix sK;have mKm:=zm5 mK;obtain⟨nT,nO,nP⟩:=zcg (zax h1);obtain⟨v,hv,nb,L0,L1⟩:=preE w 31 now aT T.length cT aO O.length cO aP P.length cP aL L.length cL aK K.length cK nx;have hw1:=L1.lt;go_enter Tryz.func19,Tryz.ntmps19;go_upto_region 1 with (fail);rw[<-hv];clear hv;obtain⟨q0,q1,q2,q3,q4,q5,q6⟩:=L0.c7;go_wp2_with (first|(go_at_call 40;refine (za3 cT cO cP cL cK h1 (hT.here nb) (hO.here nb) (hP.here nb) (hL.here nb) (hK.here nb) mT mL mK sKm).mono ?_;rintro e v2 ⟨rfl,hb2⟩;have b2:=zaa nb hb2;have M0:=L0.next hb2;have M1:=L1.next hb2;clear q0 q1 q2 q3 q4 q5 q6;obtain⟨q0,q1,q2,q3,q4,q5,q6⟩:=M0.c7;skip)|(go_at_call 49;refine (zb8 now nx id (hK.here b2) mKm).mono ?_;rintro e v3 ⟨rfl,hb3⟩;rw[hf];have b3:=zaa b2 hb3;have N0:=M0.next hb3;have N1:=M1.next hb3;clear q0 q1 q2 q3 q4 q5 q6;obtain⟨q0,q1,q2,q3,q4,q5,q6⟩:=N0.c7;skip)|(go_at_call 47;refine (zct now nx cT cO cP cL cK (hT.here b3) (hO.here b3) (hP.here b3) (hL.here b3) (hK.here b3) nT nO nP mL sL mK sK 2 (by decide)).mono ?_;rintro e u1 ⟨bT,dT,bO,dO,bP,dP,bL,dL,bK,dK,rfl,eg,hb1⟩;have HEG:Hid (Eng u1 v3.heap.size u1.heap.size (.slice bT T.length dT) (.slice bO O.length dO) (.slice bP P.length dP) (.slice bL L.length dL) (.slice bK K.length dK) T O P L K):=eg;have LU:=N1.next hb1;obtain⟨z0,z1,z2,z3,z4,z5,z6⟩:=LU.c7;have fz:=LU.free));obtain⟨u,hu',ou,U⟩:=stE (b:=w.heap.size+1) LU now bT T.length dT bO O.length dO bP P.length dP bL L.length dL bK K.length dK nx;rw[hu'];clear hu';have zu:=ou.size;have bw:=zaa b3 hb1;have zb:=b2.size;have z2:=hb2.size;have zbb:=b3.size;have z3:=hb3.size;refine bodyPost_ret (zah rfl _ _ _ _ rfl U.cell Tryz.underlying31 rfl (by kernel_rfl)) rfl ?_;exact⟨bT,dT,bO,dO,bP,dP,bL,dL,bK,dK,rfl,zk8 HEG.out ou (by omega) (by omega) ou.size,bw.trans (ou.below (by omega) bw.size)⟩
theorem zrk(hT:Qw w aT T)(hO:Qw w aO O)(hP:Qw w aP P)(hL:Fw w aL L)(hK:Kw w aK K)(mT:T.length<=1048576)(mL:L.length<=1048576)(sL:∀f ∈ L,f.2.2.length<=1048576)(mK:K.length<=1048576)(sK:∀c ∈ K,c.xs.length<=1048576)(h1:zck now nx T O P L K=true)(i:Nat)(hi:i<K.length)(hf:fK K id=(i:Int))(hg:zfo n=false):Calls Tryz.prog 19 #[zcf now aT T.length cT aO O.length cO aP P.length cP aL L.length cL aK K.length cK nx,.int .i64 id,.int .i64 n] w (zbf w now nx T O P L K (.int .i64 7)):=by
 have sKm:=zix sK;have mKm:=zm5 mK;obtain⟨nT,nO,nP⟩:=zcg (zax h1);have hi0:¬((i:Int)<0):=by omega
 have hi':(i:Int)<(K.length:Int):=by omega
 obtain⟨v,hv,nb,L0,L1⟩:=preE w 31 now aT T.length cT aO O.length cO aP P.length cP aL L.length cL aK K.length cK nx;have hw1:=L1.lt;go_enter Tryz.func19,Tryz.ntmps19;go_upto_region 1 with (fail);rw[<-hv];clear hv;obtain⟨q0,q1,q2,q3,q4,q5,q6⟩:=L0.c7;go_wp2_with (first|(go_at_call 40;refine (za3 cT cO cP cL cK h1 (hT.here nb) (hO.here nb) (hP.here nb) (hL.here nb) (hK.here nb) mT mL mK sKm).mono ?_;rintro e v2 ⟨rfl,hb2⟩;have b2:=zaa nb hb2;have M0:=L0.next hb2;have M1:=L1.next hb2;clear q0 q1 q2 q3 q4 q5 q6;obtain⟨q0,q1,q2,q3,q4,q5,q6⟩:=M0.c7;skip)|(go_at_call 49;refine (zb8 now nx id (hK.here b2) mKm).mono ?_;rintro e v3 ⟨rfl,hb3⟩;rw[hf];have b3:=zaa b2 hb3;have N0:=M0.next hb3;have N1:=M1.next hb3;clear q0 q1 q2 q3 q4 q5 q6;obtain⟨q0,q1,q2,q3,q4,q5,q6⟩:=N0.c7;skip)|(go_at_call 71;refine same1 (zh2 hg _) ?_)|(go_at_call 47;refine (zct now nx cT cO cP cL cK (hT.here b3) (hO.here b3) (hP.here b3) (hL.here b3) (hK.here b3) nT nO nP mL sL mK sK 7 (by decide)).mono ?_;rintro e u1 ⟨bT,dT,bO,dO,bP,dP,bL,dL,bK,dK,rfl,eg,hb1⟩;have HEG:Hid (Eng u1 v3.heap.size u1.heap.size (.slice bT T.length dT) (.slice bO O.length dO) (.slice bP P.length dP) (.slice bL L.length dL) (.slice bK K.length dK) T O P L K):=eg;have LU:=N1.next hb1;obtain⟨z0,z1,z2,z3,z4,z5,z6⟩:=LU.c7;have fz:=LU.free));obtain⟨u,hu',ou,U⟩:=stE (b:=w.heap.size+1) LU now bT T.length dT bO O.length dO bP P.length dP bL L.length dL bK K.length dK nx;rw[hu'];clear hu';have zu:=ou.size;have bw:=zaa b3 hb1;have zb:=b2.size;have z2:=hb2.size;have zbb:=b3.size;have z3:=hb3.size;refine bodyPost_ret (zah rfl _ _ _ _ rfl U.cell Tryz.underlying31 rfl (by kernel_rfl)) rfl ?_;exact⟨bT,dT,bO,dO,bP,dP,bL,dL,bK,dK,rfl,zk8 HEG.out ou (by omega) (by omega) ou.size,bw.trans (ou.below (by omega) bw.size)⟩
theorem zrl(hT:Qw w aT T)(hO:Qw w aO O)(hP:Qw w aP P)(hL:Fw w aL L)(hK:Kw w aK K)(mT:T.length<=1048576)(mL:L.length<=1048576)(sL:∀f ∈ L,f.2.2.length<=1048576)(mK:K.length<=1048576)(sK:∀c ∈ K,c.xs.length<=1048576)(h1:zck now nx T O P L K=true)(i:Nat)(hi:i<K.length)(hf:fK K id=(i:Int))(hg:zfo n=true)(hfull:K[i].xs.length=100):Calls Tryz.prog 19 #[zcf now aT T.length cT aO O.length cO aP P.length cP aL L.length cL aK K.length cK nx,.int .i64 id,.int .i64 n] w (zbf w now nx T O P L K (.int .i64 6)):=by
 have sKm:=zix sK;have mKm:=zm5 mK;obtain⟨nT,nO,nP⟩:=zcg (zax h1);have hi0:¬((i:Int)<0):=by omega
 have hi':(i:Int)<(K.length:Int):=by omega
 have c100:K[i].xs.length=100:=hfull;obtain⟨b,off,sa,sc,hak,hbl,d0,d13,sm⟩:=hK i hi;subst hak;rw[c100]at d13;have hq:∀x,Bw w x->x.cell? ⟨b,off+i*14+13,none⟩=some (.slice sa 100 sc):=fun x hx=>bct hx hbl d13;clear c100 hfull d0 d13 sm;obtain⟨v,hv,nb,L0,L1⟩:=preZ w 31 [.int .i64 now,.slice aT T.length cT,.slice aO O.length cO,.slice aP P.length cP,.slice aL L.length cL,.slice (some ⟨b,off,none⟩) K.length cK,.int .i64 nx];have hw1:=L1.lt;go_enter Tryz.func19,Tryz.ntmps19;go_upto_region 1 with (fail);rw[<-hv];clear hv;obtain⟨q0,q1,q2,q3,q4,q5,q6⟩:=L0.c7;go_wp2_with (first|(go_at_call 40;refine (za3 cT cO cP cL cK h1 (hT.here nb) (hO.here nb) (hP.here nb) (hL.here nb) (hK.here nb) mT mL mK sKm).mono ?_;rintro e v2 ⟨rfl,hb2⟩;have b2:=zaa nb hb2;have M0:=L0.next hb2;have M1:=L1.next hb2;clear q0 q1 q2 q3 q4 q5 q6;obtain⟨q0,q1,q2,q3,q4,q5,q6⟩:=M0.c7;skip)|(go_at_call 49;refine (zb8 now nx id (hK.here b2) mKm).mono ?_;rintro e v3 ⟨rfl,hb3⟩;rw[hf];have b3:=zaa b2 hb3;have N0:=M0.next hb3;have N1:=M1.next hb3;clear q0 q1 q2 q3 q4 q5 q6;obtain⟨q0,q1,q2,q3,q4,q5,q6⟩:=N0.c7;have c13:=hq v3 b3)|(go_at_call 71;refine same1 (zh2 hg _) ?_)|(go_at_call 47;refine (zct now nx cT cO cP cL cK (hT.here b3) (hO.here b3) (hP.here b3) (hL.here b3) (hK.here b3) nT nO nP mL sL mK sK 6 (by decide)).mono ?_;rintro e u1 ⟨bT,dT,bO,dO,bP,dP,bL,dL,bK,dK,rfl,eg,hb1⟩;have HEG:Hid (Eng u1 v3.heap.size u1.heap.size (.slice bT T.length dT) (.slice bO O.length dO) (.slice bP P.length dP) (.slice bL L.length dL) (.slice bK K.length dK) T O P L K):=eg;have LU:=N1.next hb1;obtain⟨z0,z1,z2,z3,z4,z5,z6⟩:=LU.c7;have fz:=LU.free));obtain⟨u,hu',ou,U⟩:=stE (b:=w.heap.size+1) LU now bT T.length dT bO O.length dO bP P.length dP bL L.length dL bK K.length dK nx;rw[hu'];clear hu';have zu:=ou.size;have bw:=zaa b3 hb1;have zb:=b2.size;have z2:=hb2.size;have zbb:=b3.size;have z3:=hb3.size;refine bodyPost_ret (zah rfl _ _ _ _ rfl U.cell Tryz.underlying31 rfl (by kernel_rfl)) rfl ?_;exact⟨bT,dT,bO,dO,bP,dP,bL,dL,bK,dK,rfl,zk8 HEG.out ou (by omega) (by omega) ou.size,bw.trans (ou.below (by omega) bw.size)⟩
theorem zwf(hT:Qw w aT T)(hO:Qw w aO O)(hP:Qw w aP P)(hL:Fw w aL L)(hK:Kw w aK K)(mT:T.length<=1048576)(mL:L.length<=1048576)(sL:∀f ∈ L,f.2.2.length<=1048576)(mK:K.length<=1048576)(sK:∀c ∈ K,c.xs.length<=1048576)(h1:zck now nx T O P L K=true)(i:Nat)(hi:i<K.length)(hf:fK K id=(i:Int))(hg:zfo n=true)(hfull:¬K[i].xs.length=100):Calls Tryz.prog 19 #[zcf now aT T.length cT aO O.length cO aP P.length cP aL L.length cL aK K.length cK nx,.int .i64 id,.int .i64 n] w (zbf w now nx T O P L (K.set i (K[i].more n)) (.int .i64 0)):=by
 have sKm:=zix sK;have mKm:=zm5 mK;obtain⟨nT,nO,nP⟩:=zcg (zax h1);have hi0:¬((i:Int)<0):=by omega
 have hi':(i:Int)<(K.length:Int):=by omega
 obtain⟨b,off,sa,sc,hak,hbl,d0,d13,sm⟩:=hK i hi;subst hak;obtain⟨m,hm⟩:∃m,K[i].xs.length=m:=⟨_,rfl⟩;have HM:Hid (K[i].xs.length=m):=hm;have hmi:m<=1048576:=by have:=sK K[i] (List.getElem_mem hi);omega
 have hm100:((m:Int) == 100)=false:=by rw[beq_eq_false_iff_ne];omega
 rw[hm]at d13;have hq:∀x,Bw w x->x.cell? ⟨b,off+i*14+13,none⟩=some (.slice sa m sc):=fun x hx=>bct hx hbl d13;clear hm hfull d0 d13 sm;obtain⟨i0,hi0',hz0,hz1,hz2⟩:=info_parts zeo;obtain⟨v,hv,nb,L0,L1⟩:=preZ w 31 [.int .i64 now,.slice aT T.length cT,.slice aO O.length cO,.slice aP P.length cP,.slice aL L.length cL,.slice (some ⟨b,off,none⟩) K.length cK,.int .i64 nx];have hw1:=L1.lt;go_enter Tryz.func19,Tryz.ntmps19;go_upto_region 1 with (fail);rw[<-hv];clear hv;obtain⟨q0,q1,q2,q3,q4,q5,q6⟩:=L0.c7;go_upto_region 11 with (first|(go_at_call 40;refine (za3 cT cO cP cL cK h1 (hT.here nb) (hO.here nb) (hP.here nb) (hL.here nb) (hK.here nb) mT mL mK sKm).mono ?_;rintro e v2 ⟨rfl,hb2⟩;have b2:=zaa nb hb2;have M0:=L0.next hb2;have M1:=L1.next hb2;clear q0 q1 q2 q3 q4 q5 q6;obtain⟨q0,q1,q2,q3,q4,q5,q6⟩:=M0.c7;skip)|(go_at_call 49;refine (zb8 now nx id (hK.here b2) mKm).mono ?_;rintro e v3 ⟨rfl,hb3⟩;rw[hf];have b3:=zaa b2 hb3;have N0:=M0.next hb3;have N1:=M1.next hb3;clear q0 q1 q2 q3 q4 q5 q6;obtain⟨q0,q1,q2,q3,q4,q5,q6⟩:=N0.c7;have c13:=hq v3 b3)|(go_at_call 71;refine same1 (zh2 hg _) ?_)|(go_at_call 52;refine (zcw now nx cT cO cP cL cK (hT.here b3) (hO.here b3) (hP.here b3) (hL.here b3) (hK.here b3) nT nO nP mL sL mK sK).mono ?_;rintro e u1 ⟨bT,dT,bO,dO,bP,dP,bL,dL,bK,dK,GK,lh,ph,rfl,lv,lb,tv,ck,hz,hb1⟩));obtain⟨gk,hbK⟩:∃gk,bK=some ⟨gk,0,none⟩:=by
  rcases ck.row.2 with⟨e,e2⟩|⟨gk,capk,cur,e,_⟩
  ·omega
  ·injection e with e1;exact⟨gk,e1⟩
 subst hbK;have hgl:=ck.len;have hiG:i<GK.length:=by omega
 have hgi:GK[i].1=K[i]:=by have:(GK.map Prod.fst)[i]?=K[i]?:=(by rw[ck.fst]);rw[List.getElem?_map,List.getElem?_eq_getElem hiG,List.getElem?_eq_getElem hi]at this;exact osi this
 have HGK:Hid (GK[i].1=K[i]):=hgi;have HXL:Hid (GK[i].1.xs.length=m):=by show GK[i].1.xs.length=m;rw[hgi];exact HM.out
 obtain⟨sv,cv,hsv⟩:=za2 (ck.ints i hiG);have HGI2:Hid (GK[i].2=.slice sv m cv):=by show GK[i].2=_;rw[hsv,HXL.out]
 have HSEP:Hid (∀q,GK[i].2.ownBlock=some q->ph<=q/\q<u1.heap.size):=fun q hq=>(ck.ints i hiG).lt q hq;have hgk:=ck.row.lt gk rfl;clear hgl hgi hsv;obtain⟨x,hx,LX,bx⟩:=newE u1 31 now bT T.length dT bO O.length dO bP P.length dP bL L.length dL (some ⟨gk,0,none⟩) K.length dK nx;rw[<-hx];clear hx;have CX:Hid (CpK x ph (.slice (some ⟨gk,0,none⟩) K.length dK) GK K):=ck.next bx;have X1:=(N1.next hb1).next bx;have z1:=hb1.size;have zx:=bx.size;have zb:=b2.size;have z2:=hb2.size;have z3:=hb3.size;have hlx:=LX.lt;have hzA:=hz.1;have hzB:=hz.2.1;have hzC:=hz.2.2;have e13:x.cell? ⟨gk,i*14+13,none⟩=some (.slice sv m cv):=(CX.out.row.cellAt _ (by omega)).trans ((zb1 GK i hiG 13 (by omega)).trans (by show some GK[i].2=_;rw[HGI2.out]));have HS:Hid (∀y,Bw x y->y.cell? ⟨u1.heap.size,5,none⟩=some (.slice (some ⟨gk,0,none⟩) K.length dK)/\y.cell? ⟨gk,i*14+13,none⟩=some (.slice sv m cv)):=fun y hy=>⟨(LX.next hy).cell 5 _ rfl,bct hy (by omega) e13⟩;clear ck e13;refine ze9 14 HS (brf _ _).drew fun hS=>?_;refine zae 0 rfl ?_;refine zae 1 rfl ?_;refine zae 2 rfl ?_;refine zae 3 rfl ?_;refine zae 4 rfl ?_;refine zae 5 rfl ?_;refine zae 6 rfl ?_;refine zae 7 rfl ?_;refine zae 8 rfl ?_;refine zae 9 rfl ?_;refine zaj (i:=10) (by kernel_rfl) rfl (fun Kr hKr=>?_);go_simp;refine hKr.out _ _ (HS.out _ (((brf _ x).drew).alloc (nrf _) _)) (fun hS=>?_);try simp only[nrm]
 refine zaj (i:=11) (by kernel_rfl) rfl (fun Kr hKr=>?_);rw[if_pos (by rfl)];have bA:Bw x ((x.alloc (.cells #[.int .i64 n] 2)).drew):=(zad _ _).drew;have CA:=CX.out.next bA;have RI:=CA.ints i hiG;rw[HGI2.out,HXL.out]at RI;refine zc5 _ _ _ 45 rfl ph 2 i0 _ 1 8 Tryz.underlying45 hi0' hz0 hz1 hz2 rfl (by decide) _ _ _ rfl RI ⟨x.heap.size,0,none⟩ 1 1 [.int .i64 n] rfl rfl (zen (by go_simp)) (zdl [n]) (by unfold maxLen;omega) (by omega) (by simp;omega) (by decide) ?_;intro v' w' hown' hgr hwh;obtain⟨a',c',rfl⟩:=za2 hown';have CG:=CA.grow hiG (n:=n) (v:=.slice a' (m+1) c') (by rw[HXL.out];exact hown') (by rw[HGI2.out];exact hgr) (by rw[HGI2.out];exact hwh);have hgr2:((x.alloc (.cells #[.int .i64 n] 2)).drew).grownBy w' GK[i].2.ownBlock:=by rw[HGI2.out];exact hgr
 have ho:OnlyO GK[i].2.ownBlock ((x.alloc (.cells #[.int .i64 n] 2)).drew) w':=⟨hgr2.os,hgr2.tape,hgr2.output,hgr2.size,fun k hk hn=>hgr2.block k hk (fun e=>hn e.symm)⟩;have row1:=CA.row.kept hgr2 (zb7 CA.row (CA.ints i hiG) (by decide));have Lq:=(LX.next bA).onlyO ho (fun e=>by have:=HSEP.out _ e;omega);have c13q:w'.cell? ⟨gk,i*14+13,none⟩=some (.slice sv m cv):=(row1.cellAt _ (by omega)).trans ((zb1 GK i hiG 13 (by omega)).trans (by show some GK[i].2=_;rw[HGI2.out]));have c13f:∀o,w'.frozen? ⟨gk,o,none⟩=false:=fun o=>row1.frozenAt o;have Xq:=(X1.next bA).onlyO ho (fun e=>by have:=HSEP.out _ e;omega);have oi1:OnlyI ph u1.heap.size u1 w':=(OnlyI.of_below bx).trans ((OnlyI.of_below bA).trans (OnlyI.ofO ho (fun q hq=>HSEP.out q hq)));refine hKr.out _ _ ⟨Lq.cell 5 _ rfl,c13q⟩ (fun hS=>?_);try simp only[nrm]
 refine zaj (i:=12) (by kernel_rfl) rfl (fun Kr hKr=>?_);go_simp;refine hKr.out _ _ ‹_› fun _=>?_;try simp only[nrm]
 refine zaj (i:=13) (by kernel_rfl) rfl (fun Kr hKr=>?_);go_simp;refine hKr.out _ _ ‹_› fun _=>?_;try simp only[nrm]
 refine zat (by kernel_rfl) rfl (by kernel_rfl) (fun Kr hKr=>?_);go_simp;refine hKr.out _ _ ?_;try simp only[nrm]
 obtain⟨z,hzz⟩:∃y,y=w'.setCell ⟨gk,i*14+13,none⟩ (.slice a' (m+1) c'):=⟨_,rfl⟩;rw[<-hzz]at CG ⊢;have oz:Only gk w' z:=by rw[hzz];exact (Only.refl _ w').setCell (p:=⟨gk,i*14+13,none⟩) rfl _
 clear hzz;have LZ:=Lq.only oz (by omega);have ZR:=Xq.only oz (by omega);obtain⟨s0,s1,s2,s3,s4,s5,s6⟩:=LZ.c7;obtain⟨r0,r1,r2,r3,r4,r5,r6⟩:=ZR.c7;have fz:=ZR.free;go_wp2;obtain⟨u,hu',ou,U⟩:=stE (b:=w.heap.size+1) ZR now bT T.length dT bO O.length dO bP P.length dP bL L.length dL (some ⟨gk,0,none⟩) K.length dK nx;rw[hu'];clear hu';have zoz:=oz.size;have oiz:OnlyI ph u1.heap.size u1 z:=oi1.trans ⟨oz.os,oz.tape,oz.output,oz.size,fun k hk hn=>oz.block k hk (by omega)⟩;have ziz:=oiz.size;have lz:=lv.onlyP (p:=fun k=>ph<=k/\k<u1.heap.size) ⟨oiz.os,oiz.tape,oiz.output,oiz.size,fun k hk hn=>oiz.block k hk (by omega)⟩ (fun b e e'=>by have:=lb b (.inl e);omega) (fun b e e'=>by have:=lb b (.inr (.inl e));omega) (fun b e e'=>by have:=lb b (.inr (.inr e));omega);have tz:=tv.onlyI oiz (.inl (nrf _));rw[HGK.out]at CG;have CG':CpK z ph (.slice (some ⟨gk,0,none⟩) (K.set i (K[i].more n)).length dK) (GK.set i (K[i].more n,.slice a' (m+1) c')) (K.set i (K[i].more n)):=by rw[List.length_set];exact CG
 have bwz:Bw w z:=(zaa b3 hb1).trans (oiz.below (by omega) (by omega));refine bodyPost_ret (zah rfl _ _ _ _ rfl U.cell Tryz.underlying31 rfl (by kernel_rfl)) rfl ?_;refine⟨bT,dT,bO,dO,bP,dP,bL,dL,some ⟨gk,0,none⟩,dK,by rw[List.length_set];rfl,zva lz lb tz CG' ⟨hzA,hzB,by omega⟩ ou (by omega) (by omega),bwz.trans (ou.below (by omega) bwz.size)⟩
end
end Go.Proofs.YthiojkjcmhojoaaGreat
