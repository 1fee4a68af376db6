import Derived.Test.YthiojkjcmhojoaaGreatGtAX
namespace Go.Proofs.YthiojkjcmhojoaaGreat
set_option maxHeartbeats 16000000
open Go.ChangeShapes Go.WideShapes Go.ChangeAt Go.RowKit
set_option maxRecDepth 100000
set_option linter.all false
def zzc(q:Q4)(l:Int):Q4:=(q.1,q.2.1,l,q.2.2.2)
def zei(n:Int)(q:Q4):Q4:=zzc q (q.2.2.1-1000000000*n)
def zej(n:Int)(q:Q4):Q4:=zzc q (max 0 (q.2.2.1-1000000000*n))
def zgl(f:Q4->Q4)(xs:List Q4)(c:Int):List Q4:=match xs[c.toNat]? with|some q=>xs.set c.toNat (f q)|none=>xs
theorem zuo{f:Q4->Q4}{xs:List Q4}{i:Nat}(h:i<xs.length):zgl f xs (i:Int)=xs.set i (f xs[i]):=by unfold zgl;rw[Int.toNat_natCast,List.getElem?_eq_getElem h]
theorem zj5(f:Q4->Q4)(xs:List Q4)(c:Int):(zgl f xs c).length=xs.length:=by
 unfold zgl;split
 ·rw[List.length_set]
 ·rfl
def zet(n:Int)(P:List Q4)(L:List Int):Nat->List Q4
 | 0=>P| j+1=>match L[j]? with|some c=>zgl (zei n) (zet n P L j) c|none=>zet n P L j
def zc2(n:Int)(k:Int)(O:List Q4)(L:List Int):Nat->List Q4
 | 0=>O| j+1=>match L[j]? with|some c=>if k<=(j:Int) then zgl (zej n) (zc2 n k O L j) c else zc2 n k O L j|none=>zc2 n k O L j
theorem zec(n:Int)(P:List Q4)(L:List Int):∀j,(zet n P L j).length=P.length
 | 0=>rfl
 | j+1=>by
  unfold zet;split
  ·rw[zj5,zec n P L j]
  ·exact zec n P L j
theorem zed(n k:Int)(O:List Q4)(L:List Int):∀j,(zc2 n k O L j).length=O.length
 | 0=>rfl
 | j+1=>by
  unfold zc2;split
  ·split
   ·rw[zj5,zed n k O L j]
   ·exact zed n k O L j
  ·exact zed n k O L j
theorem zn6{n:Int}{P:List Q4}{L:List Int}{j:Nat}(h:j<L.length):zet n P L (j+1)=zgl (zei n) (zet n P L j) L[j]:=by show (match L[j]? with|some c=>zgl (zei n) (zet n P L j) c|none=>zet n P L j)=_;rw[List.getElem?_eq_getElem h]
section
variable{n k:Int}{O:List Q4}{L:List Int}{j:Nat}
theorem zxz(h:j<L.length)(hk:k<=(j:Int)):zc2 n k O L (j+1)=zgl (zej n) (zc2 n k O L j) L[j]:=by show (match L[j]? with|some c=>if k<=(j:Int) then zgl (zej n) (zc2 n k O L j) c else zc2 n k O L j|none=>zc2 n k O L j)=_;rw[List.getElem?_eq_getElem h];simp only[if_pos hk]
theorem zzv(h:j<L.length)(hk:¬k<=(j:Int)):zc2 n k O L (j+1)=zc2 n k O L j:=by show (match L[j]? with|some c=>if k<=(j:Int) then zgl (zej n) (zc2 n k O L j) c else zc2 n k O L j|none=>zc2 n k O L j)=_;rw[List.getElem?_eq_getElem h];simp only[if_neg hk]
end
def zn7(T O P:List Q4)(leaf now n:Int):Bool:=zcy T O P leaf now n && decide (0<=zf1 T O P leaf now n)
def zx0(T O P:List Q4)(leaf now n:Int):List Q4:=if zcy T O P leaf now n=true then T else []
def zg2(T O P:List Q4)(leaf now n:Int):List Q4:=if zcy T O P leaf now n=true then (if zf1 T O P leaf now n<0 then za1 now O else zc2 n (zf1 T O P leaf now n) (za1 now O) (zaq T leaf) (zaq T leaf).length) else []
def zg3(T O P:List Q4)(leaf now n:Int):List Q4:=if zcy T O P leaf now n=true then (if zf1 T O P leaf now n<0 then za1 now P else zet n (za1 now P) (zaq T leaf) (zaq T leaf).length) else []
theorem zqu(xs:List Q4):∀(i:Nat) (h:i<xs.length) (l:Int),(za5 xs).set (i*4+2) (.int .i64 l)=za5 (xs.set i (zzc xs[i] l)):=by
 induction xs with
 | nil=>intro i h;cases h
 | cons x xs ih =>
  intro i h l;cases i with
  | zero=>rfl| succ i =>have hi:i<xs.length:=(by simpa using h);have e:za5 (x :: xs)=Value.int .i64 x.1 :: Value.int .i64 x.2.1 :: Value.int .i64 x.2.2.1 :: Value.int .i64 x.2.2.2 :: za5 xs:=rfl;rw[e,show (i+1)*4+2=i*4+2+1+1+1+1 by omega];show Value.int .i64 x.1 :: Value.int .i64 x.2.1 :: Value.int .i64 x.2.2.1 :: Value.int .i64 x.2.2.2 :: (za5 xs).set (i*4+2) (.int .i64 l)=za5 (x :: xs.set i (zzc xs[i] l));rw[ih i hi l];rfl
section
variable {w W:World} {b2:Nat} {sT sO sP:Value} {gT cT gO cO gP cP:Nat} {T X Y:List Q4}
theorem FlSt.lvlO(d:FlSt w W b2 sT sO sP gT cT gO cO gP cP T X Y)(i:Nat)(h:i<X.length)(l:Int):FlSt w (W.setCell ⟨gO,i*4+2,none⟩ (.int .i64 l)) b2 sT sO sP gT cT gO cO gP cP T (X.set i (zzc X[i] l)) Y:=by
 have hl:=d.low;have hg:=zez W gO (i*4+2) (.int .i64 l);have hne:=d.nO;have k:=d.keeps hg hl.1 (by omega) d.kept FlSt.cellsOk (fun b hb=>by simp only[List.mem_cons,List.not_mem_nil,or_false]at hb;omega);have ro:=(d.rO.stored (i*4+2) (.int .i64 l)).1;rw[zqu X i h l]at ro;refine⟨?_,d.rT.kept hg (zb7 d.rT d.rO (by decide)),?_,d.rP.kept hg (.inr (fun e=>d.ap (osi e).symm)),d.ap,d.lo,d.nO,d.nP,d.nT⟩
 ·rw[List.length_set];exact k
 ·rw[List.length_set];exact ro
theorem FlSt.lvlP(d:FlSt w W b2 sT sO sP gT cT gO cO gP cP T X Y)(i:Nat)(h:i<Y.length)(l:Int):FlSt w (W.setCell ⟨gP,i*4+2,none⟩ (.int .i64 l)) b2 sT sO sP gT cT gO cO gP cP T X (Y.set i (zzc Y[i] l)):=by
 have hl:=d.low;have hg:=zez W gP (i*4+2) (.int .i64 l);have hne:=d.nP;have k:=d.keeps hg hl.2.1 (by omega) d.kept FlSt.cellsOk (fun b hb=>by simp only[List.mem_cons,List.not_mem_nil,or_false]at hb;omega);have rp:=(d.rP.stored (i*4+2) (.int .i64 l)).1;rw[zqu Y i h l]at rp;refine⟨?_,d.rT.kept hg (zb7 d.rT d.rP (by decide)),d.rO.kept hg (.inr (fun e=>d.ap (osi e))),?_,d.ap,d.lo,d.nO,d.nP,d.nT⟩
 ·rw[List.length_set];exact k
 ·rw[List.length_set];exact rp
end
def LvlIn(a b:Int)(xs:List Q4):Prop:=∀i (h:i<xs.length),a<=xs[i].2.2.1/\xs[i].2.2.1<=b
theorem LvlIn.set{a b:Int}{xs:List Q4}(h:LvlIn a b xs)(i:Nat)(q:Q4)(hq:a<=q.2.2.1/\q.2.2.1<=b):LvlIn a b (xs.set i q):=by
 intro j hj;rw[List.getElem_set];split
 ·exact hq
 ·exact h j (by simpa using hj)
theorem LvlIn.low{a a' b:Int}{xs:List Q4}(h:LvlIn a b xs)(ha:a'<=a):LvlIn a' b xs:=fun i hi=>⟨by have:=(h i hi).1;omega,(h i hi).2⟩
theorem zjg{n:Int}{P:List Q4}{L:List Int}(hn:1<=n/\n<=1500)(hP:LvlIn 0 1000000000000000000 P):∀j:Nat,LvlIn (-(1500000000000*(j:Int))) 1000000000000000000 (zet n P L j)
 | 0=>by show LvlIn _ _ P;exact hP.low (by omega)
 | j+1=>by
  have ih:=(zjg (L:=L) hn hP j).low (a':=-(1500000000000*((j+1:Nat):Int))) (by omega);unfold zet;split
  ·unfold zgl;split
   ·rename_i q hq;obtain⟨hl,e⟩:=List.getElem?_eq_some_iff.1 hq;have h0:=zjg (L:=L) hn hP j _ hl;rw[e]at h0;refine ih.set _ _ ?_;simp only[zei,zzc];omega
   ·exact ih
  ·exact ih
theorem zn8{n k:Int}{O:List Q4}{L:List Int}(hn:1<=n/\n<=1500)(hO:LvlIn 0 1000000000000000000 O):∀j:Nat,LvlIn 0 1000000000000000000 (zc2 n k O L j)
 | 0=>hO
 | j+1=>by
  have ih:=zn8 (k:=k) (L:=L) hn hO j;unfold zc2;split
  ·split
   ·unfold zgl;split
    ·rename_i q hq;obtain⟨hl,e⟩:=List.getElem?_eq_some_iff.1 hq;have h0:=ih _ hl;rw[e]at h0;refine ih.set _ _ ?_;simp only[zej,zzc];omega
    ·exact ih
   ·exact ih
  ·exact ih
theorem zcb{w:World}{lo hi nT cT nO cO nP cP nL cL nK cK:Nat}{aT aO aP aL aK:Option Addr}{T O P:List Q4}{L:List F8}{K:List Kn}(h:Eng w lo hi (.slice aT nT cT) (.slice aO nO cO) (.slice aP nP cP) (.slice aL nL cL) (.slice aK nK cK) T O P L K):
 Qw w aT T/\Qw w aO O/\Qw w aP P/\Fw w aL L/\Kw w aK K:=by
 obtain⟨_,_,_,_,_,_,e⟩:=h;exact⟨(e.l.t.quad).2,(e.l.o.quad).2,(e.l.p.quad).2,(e.p.fls).2,(e.k.kls).2⟩
theorem zqv{w:World}{aT aO aP:Option Addr}(cT cO cP:Nat){T O P:List Q4}(leaf now n:Int)(hT:Qw w aT T)(hO:Qw w aO O)(hP:Qw w aP P)(h1:zcy T O P leaf now n=false):
 Calls Tryz.prog 175 #[zea aT T.length cT aO O.length cO aP P.length cP,.int .i64 leaf,.int .i64 now,.int .i64 n] w (zh3 w [] [] [] false):=by
 have KW:Hid (Kept w [(w.heap.size,0,.slice aT T.length cT),(w.heap.size,1,.slice aO O.length cO),(w.heap.size,2,.slice aP P.length cP),(w.heap.size+1,0,.slice none 0 0),(w.heap.size+1,1,.slice none 0 0),(w.heap.size+1,2,.slice none 0 0)] [w.heap.size+1] ((w.alloc (.cells #[.slice aT T.length cT,.slice aO O.length cO,.slice aP P.length cP] 27)).alloc (.cells #[.slice none 0 0,.slice none 0 0,.slice none 0 0] 27))) :=
  ⟨⟨⟨by simp<;>omega,by go_simp⟩,⟨by simp<;>omega,by go_simp⟩,⟨by simp<;>omega,by go_simp⟩,⟨by simp,by go_simp⟩,⟨by simp,by go_simp⟩,⟨by simp,by go_simp⟩,trivial⟩,
   (fun b hb=>by simp only[List.mem_cons,List.not_mem_nil,or_false]at hb;subst hb;exact⟨by simp,fun o=>by go_simp⟩),by go_grown⟩
 have nb:=KW.out.hb;have htold:=zl7 cT cO cP h1 (hT.here nb) (hO.here nb) (hP.here nb);go_enter Tryz.func175,Tryz.ntmps175;go_wp2_with (go_at_call 197;refine htold.mono ?_;clear htold;rintro e w2 ⟨rfl,hb2⟩;have K2:Hid (Kept w [(w.heap.size,0,.slice aT T.length cT),(w.heap.size,1,.slice aO O.length cO),(w.heap.size,2,.slice aP P.length cP),(w.heap.size+1,0,.slice none 0 0),(w.heap.size+1,1,.slice none 0 0),(w.heap.size+1,2,.slice none 0 0)] [w.heap.size+1] w2):=KW.out.next hb2;have ⟨_,_,_,⟨_,q3⟩,⟨_,q4⟩,⟨_,q5⟩,_⟩:=K2.out.cells;have fr:=(K2.out.free _ (List.mem_singleton.2 rfl)).2);refine bodyPost_ret (zah rfl _ _ _ [.slice none 0 0,.slice none 0 0,.slice none 0 0] rfl (zeb (u0:=.slice none 0 0) (u1:=.slice none 0 0) (u2:=.slice none 0 0) _ _ _ q3 q4 q5) Tryz.underlying27 rfl (by kernel_rfl)) rfl ?_;exact⟨_,_,_,_,_,_,_,_,_,rfl,LV.zero _ _,((K2.out.hb.setCell (by simp) _).setCell (by simp) _).setCell (by simp) _⟩
theorem zx1{w W:World}{b2:Nat}{sT sO sP:Value}{gT cT gO cO gP cP:Nat}{T X Y:List Q4}(d:FlSt w W b2 sT sO sP gT cT gO cO gP cP T X Y){a b c:Value}:
 LV (((W.setCell ⟨w.heap.size+1,0,none⟩ a).setCell ⟨w.heap.size+1,1,none⟩ b).setCell ⟨w.heap.size+1,2,none⟩ c) w.heap.size (.slice (some ⟨gT,0,none⟩) T.length cT) (.slice (some ⟨gO,0,none⟩) X.length cO) (.slice (some ⟨gP,0,none⟩) Y.length cP) T X Y/\Bw w (((W.setCell ⟨w.heap.size+1,0,none⟩ a).setCell ⟨w.heap.size+1,1,none⟩ b).setCell ⟨w.heap.size+1,2,none⟩ c):=by
 refine⟨⟨zek (zch (za7 (za7 (za7 d.rT (by omega)) (by omega)) (by omega)) (by omega)),zek (zch (za7 (za7 (za7 d.rO (by omega)) (by omega)) (by omega)) (by omega)),zek (zch (za7 (za7 (za7 d.rP (by omega)) (by omega)) (by omega)) (by omega)),?_,?_,?_⟩,((d.kept.hb.setCell (by simp) _).setCell (by simp) _).setCell (by simp) _⟩
 ·exact fun g h1 h2=>zbv d.rT d.rO (by decide) g (za6 h1) (za6 h2)
 ·exact fun g h1 h2=>zbv d.rT d.rP (by decide) g (za6 h1) (za6 h2)
 ·intro g h1 h2;have e1:gO=g:=osi (za6 h1);have e2:gP=g:=osi (za6 h2);exact d.ap (by omega)
theorem zne{w:World}{aT aO aP:Option Addr}(cT cO cP:Nat){T O P:List Q4}(leaf now n:Int)(hT:Qw w aT T)(hO:Qw w aO O)(hP:Qw w aP P)(h1:zcy T O P leaf now n=true)(hwho:zf1 T O P leaf now n = -1):
 Calls Tryz.prog 175 #[zea aT T.length cT aO O.length cO aP P.length cP,.int .i64 leaf,.int .i64 now,.int .i64 n] w (zh3 w T (za1 now O) (za1 now P) false):=by
 have KW:Hid (Kept w [(w.heap.size,0,.slice aT T.length cT),(w.heap.size,1,.slice aO O.length cO),(w.heap.size,2,.slice aP P.length cP),(w.heap.size+1,0,.slice none 0 0),(w.heap.size+1,1,.slice none 0 0),(w.heap.size+1,2,.slice none 0 0)] [w.heap.size+1] ((w.alloc (.cells #[.slice aT T.length cT,.slice aO O.length cO,.slice aP P.length cP] 27)).alloc (.cells #[.slice none 0 0,.slice none 0 0,.slice none 0 0] 27))) :=
  ⟨⟨⟨by simp<;>omega,by go_simp⟩,⟨by simp<;>omega,by go_simp⟩,⟨by simp<;>omega,by go_simp⟩,⟨by simp,by go_simp⟩,⟨by simp,by go_simp⟩,⟨by simp,by go_simp⟩,trivial⟩,
   (fun b hb=>by simp only[List.mem_cons,List.not_mem_nil,or_false]at hb;subst hb;exact⟨by simp,fun o=>by go_simp⟩),by go_grown⟩
 have nb:=KW.out.hb;have zW:((w.alloc (.cells #[.slice aT T.length cT,.slice aO O.length cO,.slice aP P.length cP] 27)).alloc (.cells #[.slice none 0 0,.slice none 0 0,.slice none 0 0] 27)).heap.size=w.heap.size+2:=by simp
 have htold:=zl7 cT cO cP h1 (hT.here nb) (hO.here nb) (hP.here nb);have ht:=zxr h1;have hd:=ht.lend;have hw:=hd.tree.sound.well;have h30:=hd.tree.l1;have h01:=hd.tree.l0;have lO:=hd.lo;have lP:=hd.lp;have okO:∀k (h:k<O.length),zle O[k]=true:=fun k h=>(zg1 (hd.pair k (by omega) h (by omega))).oka;have okP:∀k (h:k<P.length),zle P[k]=true:=fun k h=>(zg1 (hd.pair k (by omega) (by omega) h)).okb;have hnow:=ht.isTime;have hsg:=zi1 ht.isSeg;have l0:=ht.l0;have l1:=ht.l1;have hpl:(zaq T leaf).length<=30:=ntr (zge l1) h30;have hpi:∀j (h:j<(zaq T leaf).length),0<=(zaq T leaf)[j]/\(zaq T leaf)[j]<((za1 now P).length:Int):=fun j h=>by have:=zhe hw T.length leaf l1 (by omega) _ (List.getElem_mem h);rw[zaw,lP];omega
 have hpath:=fun (W:World) (hq:Qw W aT T)=>zfk cT leaf hq hw h30 (by omega) l1;have hfill:=fun (W:World) (q1:Qw W aT T) (q2:Qw W aO O) (q3:Qw W aP P)=>zje cT cO cP now q1 q2 q3 ⟨h01,h30⟩ lO lP hnow okO okP;have hle:(za1 now O).length=(za1 now P).length:=by rw[zaw,zaw,lO,lP]
 have hlp30:(za1 now P).length<=30:=by rw[zaw,lP];exact h30
 have hask:∀(W:World) (gT dT gO dO gP dP cL:Nat) (aL:Option Addr),Qw W (some ⟨gO,0,none⟩) (za1 now O)->Qw W (some ⟨gP,0,none⟩) (za1 now P)->Iw W aL (zaq T leaf) ->
  Calls Tryz.prog 195 #[zea (some ⟨gT,0,none⟩) T.length dT (some ⟨gO,0,none⟩) (za1 now O).length dO (some ⟨gP,0,none⟩) (za1 now P).length dP,.slice aL (zaq T leaf).length cL,.int .i64 n] W fun e w'=>e=.returned (.int .i64 (-1))/\Bw W w':=by
  intro W gT dT gO dO gP dP cL aL q2 q3 iL;have h:=zma (aT:=some ⟨gT,0,none⟩) T.length dT dO dP cL q2 q3 iL hle hlp30 hpi hpl hsg;have e:zh1 (za1 now O) (za1 now P) n (zaq T leaf) = -1:=hwho;rw[e]at h;exact h
 clear ht hd hle hlp30 hpi lO lP okO okP hw hwho;obtain⟨FO,hFO⟩:∃X,za1 now O=X:=⟨_,rfl⟩;obtain⟨FP,hFP⟩:∃X,za1 now P=X:=⟨_,rfl⟩;rw[hFO,hFP]at hfill hask;rw[hFO,hFP];clear hFO hFP;obtain⟨L,hL⟩:∃L,zaq T leaf=L:=⟨_,rfl⟩;rw[hL]at hpath hask hpl;clear hL;go_enter Tryz.func175,Tryz.ntmps175;go_upto_region 3 with (go_at_call 197;refine htold.mono ?_;clear htold;rintro e w2 ⟨rfl,hb2⟩;have K2:Hid (Kept w [(w.heap.size,0,.slice aT T.length cT),(w.heap.size,1,.slice aO O.length cO),(w.heap.size,2,.slice aP P.length cP),(w.heap.size+1,0,.slice none 0 0),(w.heap.size+1,1,.slice none 0 0),(w.heap.size+1,2,.slice none 0 0)] [w.heap.size+1] w2):=KW.out.next hb2;have ⟨⟨_,q0⟩,⟨_,q1⟩,⟨_,q2⟩,⟨_,q3⟩,⟨_,q4⟩,⟨_,q5⟩,_⟩:=K2.out.cells);have hbw2:=K2.out.hb;have zs2:=hb2.size;rw[zW]at zs2;go_upto_region 4 with (go_at_call 90;refine (hfill _ (hT.here hbw2) (hO.here hbw2) (hP.here hbw2)).mono ?_;rintro e w4 ⟨gT,dT,gO,dO,gP,dP,rfl,r1,r2,r3,hap,hb4⟩);have D:Hid (FlSt w (w4.alloc (.cells #[.slice (some ⟨gT,0,none⟩) T.length dT,.slice (some ⟨gO,0,none⟩) FO.length dO,.slice (some ⟨gP,0,none⟩) FP.length dP] 27)) w4.heap.size (.slice aT T.length cT) (.slice aO O.length cO) (.slice aP P.length cP) gT dT gO dO gP dP T FO FP):=by have K5:=(K2.out.next hb4).next (zad w4 (.cells #[.slice (some ⟨gT,0,none⟩) T.length dT,.slice (some ⟨gO,0,none⟩) FO.length dO,.slice (some ⟨gP,0,none⟩) FP.length dP] 27));obtain⟨⟨e0,e1,e2,e3,e4,e5,_⟩,hf,hbb⟩:=K5;have hs:=hb4.size;exact⟨⟨⟨e0,e1,e2,e3,e4,e5,⟨by simp,by go_simp⟩,⟨by simp,by go_simp⟩,⟨by simp,by go_simp⟩,trivial⟩,hf,hbb⟩,(zch r1 zs2).alloc _,(zch r2 zs2).alloc _,(zch r3 zs2).alloc _,hap,by omega,(r2.lt gO rfl).2,(r3.lt gP rfl).2,(r1.lt gT rfl).2⟩
 clear r1 r2 r3 K2 q0 q1 q2 q3 q4 q5 hb4;obtain⟨v0,hv0⟩:∃v,w4.alloc (.cells #[.slice (some ⟨gT,0,none⟩) T.length dT,.slice (some ⟨gO,0,none⟩) FO.length dO,.slice (some ⟨gP,0,none⟩) FP.length dP] 27)=v:=⟨_,rfl⟩;rw[hv0]at D ⊢;obtain⟨b2,hbb2⟩:∃b,w4.heap.size=b:=⟨_,rfl⟩;rw[hbb2]at D ⊢;clear hv0 hbb2;have ⟨⟨_,q0⟩,⟨_,q1⟩,⟨_,q2⟩,⟨_,q3⟩,⟨_,q4⟩,⟨_,q5⟩,⟨_,q6⟩,⟨_,q7⟩,⟨_,q8⟩,_⟩:=D.out.kept.cells;have hbw5:=D.out.kept.hb;go_upto_region 5 with (go_at_call 196;refine (hpath _ (hT.here hbw5)).mono ?_;rintro e w5 ⟨aL,nL,cL,rfl,ivL,hb5⟩);obtain⟨aL',cL',eL,isL⟩:=ivL.smp;injection eL with eL1 eL2 eL3;subst eL1 eL2;clear eL3;have D5:Hid (FlSt w w5 b2 (.slice aT T.length cT) (.slice aO O.length cO) (.slice aP P.length cP) gT dT gO dO gP dP T FO FP):=D.out.next hb5;clear D q0 q1 q2 q3 q4 q5 q6 q7 q8;have ⟨⟨_,q0⟩,⟨_,q1⟩,⟨_,q2⟩,⟨_,q3⟩,⟨_,q4⟩,⟨_,q5⟩,⟨_,q6⟩,⟨_,q7⟩,⟨_,q8⟩,_⟩:=D5.out.kept.cells;have ha:=hask w5 gT dT gO dO gP dP cL aL (zf0 D5.out.rO) (zf0 D5.out.rP) isL;go_upto_region 6 with (go_at_call 195;refine ha.mono ?_;clear ha;rintro e w6 ⟨rfl,hb6⟩);have D6:Hid (FlSt w w6 b2 (.slice aT T.length cT) (.slice aO O.length cO) (.slice aP P.length cP) gT dT gO dO gP dP T FO FP):=D5.out.next hb6;clear D5 q0 q1 q2 q3 q4 q5 q6 q7 q8;have ⟨⟨_,q0⟩,⟨_,q1⟩,⟨_,q2⟩,⟨_,q3⟩,⟨_,q4⟩,⟨_,q5⟩,⟨_,q6⟩,⟨_,q7⟩,⟨_,q8⟩,_⟩:=D6.out.kept.cells;have fr:=(D6.out.kept.free (w.heap.size+1) (List.mem_singleton.2 rfl)).2;have n1:w.heap.size+1≠b2:=by have:=D6.out.lo;omega
 go_wp2;refine bodyPost_ret (zah rfl _ _ _ [.slice (some ⟨gT,0,none⟩) T.length dT,.slice (some ⟨gO,0,none⟩) FO.length dO,.slice (some ⟨gP,0,none⟩) FP.length dP] rfl (zeb (u0:=.slice none 0 0) (u1:=.slice none 0 0) (u2:=.slice none 0 0) _ _ _ q3 q4 q5) Tryz.underlying27 rfl (by kernel_rfl)) rfl ?_;have hfin:=zx1 D6.out (a:=.slice (some ⟨gT,0,none⟩) T.length dT) (b:=.slice (some ⟨gO,0,none⟩) FO.length dO) (c:=.slice (some ⟨gP,0,none⟩) FP.length dP);exact⟨_,_,_,_,_,_,_,_,_,rfl,hfin.1,hfin.2⟩
theorem zox(x y:Int)(w:World):Calls Tryz.prog 83 #[.int .i64 x,.int .i64 y] w fun e w'=>e=.returned (.int .i64 (max x y))/\w'=w:=by
 rcases Int.lt_trichotomy x y with h|h|h
 ·rw[Int.max_eq_right (by omega)];go_enter Tryz.func83,Tryz.ntmps83;go_wp2;go_ret;exact⟨rfl,rfl⟩
 ·subst h;rw[Int.max_eq_right (by omega)];go_enter Tryz.func83,Tryz.ntmps83;go_wp2;go_ret;exact⟨rfl,rfl⟩
 ·rw[Int.max_eq_left (by omega)];go_enter Tryz.func83,Tryz.ntmps83;go_wp2;go_ret;exact⟨rfl,rfl⟩
section
variable{w:World}{aT aO aP:Option Addr}(cT cO cP:Nat){T O P:List Q4}(leaf now n:Int)
theorem zo1(hT:Qw w aT T)(hO:Qw w aO O)(hP:Qw w aP P)(h1:zcy T O P leaf now n=true)(kk:Nat)(hwho:zf1 T O P leaf now n=kk):
 Calls Tryz.prog 175 #[zea aT T.length cT aO O.length cO aP P.length cP,.int .i64 leaf,.int .i64 now,.int .i64 n] w (zh3 w T (zc2 n kk (za1 now O) (zaq T leaf) (zaq T leaf).length) (zet n (za1 now P) (zaq T leaf) (zaq T leaf).length) true):=by
 have KW:Hid (Kept w [(w.heap.size,0,.slice aT T.length cT),(w.heap.size,1,.slice aO O.length cO),(w.heap.size,2,.slice aP P.length cP),(w.heap.size+1,0,.slice none 0 0),(w.heap.size+1,1,.slice none 0 0),(w.heap.size+1,2,.slice none 0 0)] [w.heap.size+1] ((w.alloc (.cells #[.slice aT T.length cT,.slice aO O.length cO,.slice aP P.length cP] 27)).alloc (.cells #[.slice none 0 0,.slice none 0 0,.slice none 0 0] 27))) :=
  ⟨⟨⟨by simp<;>omega,by go_simp⟩,⟨by simp<;>omega,by go_simp⟩,⟨by simp<;>omega,by go_simp⟩,⟨by simp,by go_simp⟩,⟨by simp,by go_simp⟩,⟨by simp,by go_simp⟩,trivial⟩,
   (fun b hb=>by simp only[List.mem_cons,List.not_mem_nil,or_false]at hb;subst hb;exact⟨by simp,fun o=>by go_simp⟩),by go_grown⟩
 have nb:=KW.out.hb;have zW:((w.alloc (.cells #[.slice aT T.length cT,.slice aO O.length cO,.slice aP P.length cP] 27)).alloc (.cells #[.slice none 0 0,.slice none 0 0,.slice none 0 0] 27)).heap.size=w.heap.size+2:=by simp
 have htold:=zl7 cT cO cP h1 (hT.here nb) (hO.here nb) (hP.here nb);have ht:=zxr h1;have hd:=ht.lend;have hw:=hd.tree.sound.well;have h30:=hd.tree.l1;have h01:=hd.tree.l0;have lO:=hd.lo;have lP:=hd.lp;have okO:∀k (h:k<O.length),zle O[k]=true:=fun k h=>(zg1 (hd.pair k (by omega) h (by omega))).oka;have okP:∀k (h:k<P.length),zle P[k]=true:=fun k h=>(zg1 (hd.pair k (by omega) (by omega) h)).okb;have hnow:=ht.isTime;have hsg:=zi1 ht.isSeg;have l0:=ht.l0;have l1:=ht.l1;have hpl:(zaq T leaf).length<=30:=ntr (zge l1) h30;have hpi:∀j (h:j<(zaq T leaf).length),0<=(zaq T leaf)[j]/\(zaq T leaf)[j]<((za1 now P).length:Int):=fun j h=>by have:=zhe hw T.length leaf l1 (by omega) _ (List.getElem_mem h);rw[zaw,lP];omega
 have hpath:=fun (W:World) (hq:Qw W aT T)=>zfk cT leaf hq hw h30 (by omega) l1;have hfill:=fun (W:World) (q1:Qw W aT T) (q2:Qw W aO O) (q3:Qw W aP P)=>zje cT cO cP now q1 q2 q3 ⟨h01,h30⟩ lO lP hnow okO okP;have hle:(za1 now O).length=(za1 now P).length:=by rw[zaw,zaw,lO,lP]
 have hlp30:(za1 now P).length<=30:=by rw[zaw,lP];exact h30
 have hask:∀(W:World) (gT dT gO dO gP dP cL:Nat) (aL:Option Addr),Qw W (some ⟨gO,0,none⟩) (za1 now O)->Qw W (some ⟨gP,0,none⟩) (za1 now P)->Iw W aL (zaq T leaf) ->
  Calls Tryz.prog 195 #[zea (some ⟨gT,0,none⟩) T.length dT (some ⟨gO,0,none⟩) (za1 now O).length dO (some ⟨gP,0,none⟩) (za1 now P).length dP,.slice aL (zaq T leaf).length cL,.int .i64 n] W fun e w'=>e=.returned (.int .i64 (kk:Int))/\Bw W w':=by
  intro W gT dT gO dO gP dP cL aL q2 q3 iL;have h:=zma (aT:=some ⟨gT,0,none⟩) T.length dT dO dP cL q2 q3 iL hle hlp30 hpi hpl hsg;have e:zh1 (za1 now O) (za1 now P) n (zaq T leaf)=kk:=hwho;rw[e]at h;exact h
 have hkk:(kk:Int)<=30:=by have:=zqn T O P leaf now n;rw[hwho]at this;omega
 have lvO:LvlIn 0 1000000000000000000 (za1 now O):=fun i h=>by have hi:i<O.length:=(by rw[zaw]at h;exact h);have hb:=zi2 (zii (okO i hi) hnow);rw[zgh hi h];have:=hb.2.1;have:=hb.2.2.1;omega
 have lvP:LvlIn 0 1000000000000000000 (za1 now P):=fun i h=>by have hi:i<P.length:=(by rw[zaw]at h;exact h);have hb:=zi2 (zii (okP i hi) hnow);rw[zgh hi h];have:=hb.2.1;have:=hb.2.2.1;omega
 have hlFO:(za1 now O).length=T.length:=by rw[zaw,lO]
 have hlFP:(za1 now P).length=T.length:=by rw[zaw,lP]
 have hpj:∀j (h:j<(zaq T leaf).length),0<=(zaq T leaf)[j]/\(zaq T leaf)[j]<(T.length:Int):=fun j h=>by have:=hpi j h;rw[hlFP]at this;exact this
 clear ht hd hle hlp30 hpi lO lP okO okP hw hwho;obtain⟨FO,hFO⟩:∃X,za1 now O=X:=⟨_,rfl⟩;obtain⟨FP,hFP⟩:∃X,za1 now P=X:=⟨_,rfl⟩;rw[hFO]at hfill hask lvO hlFO;rw[hFP]at hfill hask lvP hlFP;rw[hFO,hFP];clear hFO hFP;have HLO:Hid (FO.length=T.length):=hlFO;have HLP:Hid (FP.length=T.length):=hlFP;clear hlFO hlFP;obtain⟨L,hL⟩:∃L,zaq T leaf=L:=⟨_,rfl⟩;rw[hL]at hpath hask hpl hpj ⊢;clear hL;go_enter Tryz.func175,Tryz.ntmps175;go_upto_region 3 with (go_at_call 197;refine htold.mono ?_;clear htold;rintro e w2 ⟨rfl,hb2⟩;have K2:Hid (Kept w [(w.heap.size,0,.slice aT T.length cT),(w.heap.size,1,.slice aO O.length cO),(w.heap.size,2,.slice aP P.length cP),(w.heap.size+1,0,.slice none 0 0),(w.heap.size+1,1,.slice none 0 0),(w.heap.size+1,2,.slice none 0 0)] [w.heap.size+1] w2):=KW.out.next hb2;have ⟨⟨_,q0⟩,⟨_,q1⟩,⟨_,q2⟩,⟨_,q3⟩,⟨_,q4⟩,⟨_,q5⟩,_⟩:=K2.out.cells);have hbw2:=K2.out.hb;have zs2:=hb2.size;rw[zW]at zs2;go_upto_region 4 with (go_at_call 90;refine (hfill _ (hT.here hbw2) (hO.here hbw2) (hP.here hbw2)).mono ?_;rintro e w4 ⟨gT,dT,gO,dO,gP,dP,rfl,r1,r2,r3,hap,hb4⟩);have D:Hid (FlSt w (w4.alloc (.cells #[.slice (some ⟨gT,0,none⟩) T.length dT,.slice (some ⟨gO,0,none⟩) FO.length dO,.slice (some ⟨gP,0,none⟩) FP.length dP] 27)) w4.heap.size (.slice aT T.length cT) (.slice aO O.length cO) (.slice aP P.length cP) gT dT gO dO gP dP T FO FP):=by have K5:=(K2.out.next hb4).next (zad w4 (.cells #[.slice (some ⟨gT,0,none⟩) T.length dT,.slice (some ⟨gO,0,none⟩) FO.length dO,.slice (some ⟨gP,0,none⟩) FP.length dP] 27));obtain⟨⟨e0,e1,e2,e3,e4,e5,_⟩,hf,hbb⟩:=K5;have hs:=hb4.size;exact⟨⟨⟨e0,e1,e2,e3,e4,e5,⟨by simp,by go_simp⟩,⟨by simp,by go_simp⟩,⟨by simp,by go_simp⟩,trivial⟩,hf,hbb⟩,(zch r1 zs2).alloc _,(zch r2 zs2).alloc _,(zch r3 zs2).alloc _,hap,by omega,(r2.lt gO rfl).2,(r3.lt gP rfl).2,(r1.lt gT rfl).2⟩
 clear r1 r2 r3 K2 q0 q1 q2 q3 q4 q5 hb4;obtain⟨v0,hv0⟩:∃v,w4.alloc (.cells #[.slice (some ⟨gT,0,none⟩) T.length dT,.slice (some ⟨gO,0,none⟩) FO.length dO,.slice (some ⟨gP,0,none⟩) FP.length dP] 27)=v:=⟨_,rfl⟩;rw[hv0]at D ⊢;obtain⟨b2,hbb2⟩:∃b,w4.heap.size=b:=⟨_,rfl⟩;rw[hbb2]at D ⊢;have hbv:b2<v0.heap.size:=by rw[<-hv0,<-hbb2];simp
 clear hv0 hbb2;have ⟨⟨_,q0⟩,⟨_,q1⟩,⟨_,q2⟩,⟨_,q3⟩,⟨_,q4⟩,⟨_,q5⟩,⟨_,q6⟩,⟨_,q7⟩,⟨_,q8⟩,_⟩:=D.out.kept.cells;have hbw5:=D.out.kept.hb;go_upto_region 5 with (go_at_call 196;refine (hpath _ (hT.here hbw5)).mono ?_;rintro e w5 ⟨aL,nL,cL,rfl,ivL,hb5⟩);obtain⟨aL',cL',eL,isL⟩:=ivL.smp;injection eL with eL1 eL2 eL3;subst eL1 eL2;clear eL3;have D5:Hid (FlSt w w5 b2 (.slice aT T.length cT) (.slice aO O.length cO) (.slice aP P.length cP) gT dT gO dO gP dP T FO FP):=D.out.next hb5;clear D q0 q1 q2 q3 q4 q5 q6 q7 q8;have ⟨⟨_,q0⟩,⟨_,q1⟩,⟨_,q2⟩,⟨_,q3⟩,⟨_,q4⟩,⟨_,q5⟩,⟨_,q6⟩,⟨_,q7⟩,⟨_,q8⟩,_⟩:=D5.out.kept.cells;have ha:=hask w5 gT dT gO dO gP dP cL aL (zf0 D5.out.rO) (zf0 D5.out.rP) isL;go_upto_region 6 with (go_at_call 195;refine ha.mono ?_;clear ha;rintro e w6 ⟨rfl,hb6⟩);have ivL6:=ivL.next hb6;have D6:Hid (FlSt w w6 b2 (.slice aT T.length cT) (.slice aO O.length cO) (.slice aP P.length cP) gT dT gO dO gP dP T FO FP):=D5.out.next hb6;clear D5 q0 q1 q2 q3 q4 q5 q6 q7 q8;have hTi:(T.length:Int)<=30:=by omega
 have hLi:(L.length:Int)<=30:=by omega
 have hn0:=hsg.1;have hn1:=hsg.2;have hkn:decide ((kk:Int)<0)=false:=decide_eq_false (by omega);go_wp2;go_loopw [13] (fun i wr=>∃(j:Nat) (X Y:List Q4),i=.int .i64 j/\j<=L.length/\Hid (X=zc2 n kk FO L j)/\Hid (Y=zet n FP L j)/\Hid (IV wr (b2+1) (.slice aL L.length cL) L)/\Hid (FlSt w wr b2 (.slice aT T.length cT) (.slice aO O.length cO) (.slice aP P.length cP) gT dT gO dO gP dP T X Y)) (fun i _=>L.length-(intOf i).toNat);case atStart=>exact⟨0,FO,FP,rfl,by omega,rfl,rfl,ivL6.lower (by omega),D6⟩
 case round =>
  clear D6 ivL6;obtain⟨j,X,Y,rfl,hj,HX,HY,IL,D⟩:=hrel;have HLX:Hid (X.length=T.length):=(by show X.length=T.length;rw[HX.out,zed,HLO.out]);have HLY:Hid (Y.length=T.length):=(by show Y.length=T.length;rw[HY.out,zec,HLP.out]);have ⟨⟨_,q0⟩,⟨_,q1⟩,⟨_,q2⟩,⟨_,q3⟩,⟨_,q4⟩,⟨_,q5⟩,⟨_,q6⟩,⟨_,q7⟩,⟨_,q8⟩,_⟩:=D.out.kept.cells;rw[HLX.out]at q7;rw[HLY.out]at q8;have hbw:=D.out.kept.hb;by_cases hlt:j<L.length
  ·have hlt':(j:Int)<(L.length:Int):=(by omega);have hc:=hpj j hlt;have HT:Hid (zet n FP L (j+1)=zgl (zei n) (zet n FP L j) L[j]):=zn6 hlt;have HO1:Hid ((kk:Int)<=(j:Int)->zc2 n kk FO L (j+1)=zgl (zej n) (zc2 n kk FO L j) L[j]):=zxz hlt;have HO2:Hid (¬(kk:Int)<=(j:Int)->zc2 n kk FO L (j+1)=zc2 n kk FO L j):=zzv hlt;obtain⟨aL1,cL1,eL,is1⟩:=IL.out.smp;injection eL with eL1 eL2 eL3;subst eL1;clear eL2 eL3;obtain⟨bL,oL,rfl,hbL,yL⟩:=is1 j hlt;have hbL2:=(IL.out.own (g:=bL) rfl).1;obtain⟨cc,hcc⟩:∃c:Nat,L[j]=(c:Int):=⟨L[j].toNat,by omega⟩;have HCC:Hid (L[j]=(cc:Int)):=hcc;rw[hcc]at yL hc HT HO1;clear hcc is1;have hcY:cc<Y.length:=(by have:=HLY.out;omega);have hcX:cc<X.length:=(by have:=HLX.out;omega);have HYN:Hid (zet n FP L (j+1)=Y.set cc (zei n Y[cc])):=(by show _=_;rw[HT.out,<-HY.out,zuo hcY]);have HX1:Hid ((kk:Int)<=(j:Int)->zc2 n kk FO L (j+1)=X.set cc (zej n X[cc])):=(by intro h;rw[HO1.out h,<-HX.out,zuo hcX]);have HX2:Hid (¬(kk:Int)<=(j:Int)->zc2 n kk FO L (j+1)=X):=(by intro h;rw[HO2.out h,<-HX.out]);clear HT HO1 HO2;have hc1:(cc:Int)<(T.length:Int):=hc.2;obtain⟨x0,x1,x2,x3⟩:=(zf0 D.out.rP).cells (brf _ _) cc hcY;have hv:=zjg (L:=L) hsg lvP j;rw[<-HY.out]at hv;have hv:=hv cc hcY;have HD:∀m:Nat,Hid (FlSt w ((wr.drewN m).setCell ⟨gP,cc*4+2,none⟩ (.int .i64 (Y[cc].2.2.1-1000000000*n))) b2 (.slice aT T.length cT) (.slice aO O.length cO) (.slice aP P.length cP) gT dT gO dO gP dP T X (Y.set cc (zei n Y[cc]))):=fun m=>(D.out.next (zan (brf _ _) m)).lvlP cc hcY _;obtain⟨b,hb⟩:∃b,Y[cc]=b:=⟨_,rfl⟩;rw[hb]at x2 hv HYN HD;obtain⟨r,u,l,t⟩:=b;simp only[Nat.zero_add]at x2 hv;clear hb x0 x1 x3;have hv0:=hv.1;have hv1:=hv.2;clear hv hpj hask hpath hfill;have z0:∀j,wr.frozen? ⟨gP,j,none⟩=false:=fun j=>D.out.rP.frozenAt j;have nPL:gP≠bL:=(by have:=D.out.nP;omega);have hI:∀(m:Nat) (v:Value),Hid (IV ((wr.drewN m).setCell ⟨gP,cc*4+2,none⟩ v) (b2+1) (.slice (some ⟨bL,oL,none⟩) L.length cL) L):=fun m v=>(IL.out.next (zan (brf _ _) m)).onlyO (OnlyO.of_only ((Only.refl gP _).setCell rfl _)) (fun g hg e=>nPL ((osi e).trans (osi hg).symm));go_upto_region 11 with (fail);go_quiet (fail);go_upto_region 13 with (fail);have D1:Hid (FlSt w ((wr.drewN nq).setCell ⟨gP,cc*4+2,none⟩ (.int .i64 (l-1000000000*n))) b2 (.slice aT T.length cT) (.slice aO O.length cO) (.slice aP P.length cP) gT dT gO dO gP dP T X (Y.set cc (zei n (r,u,l,t)))):=HD nq;have I1:=hI nq (.int .i64 (l-1000000000*n));obtain⟨wq,hwq⟩:∃v,(wr.drewN nq).setCell ⟨gP,cc*4+2,none⟩ (.int .i64 (l-1000000000*n))=v:=⟨_,rfl⟩;rw[hwq]at D1 I1 ⊢;clear hwq HD hI D IL q0 q1 q2 q3 q4 q5 q6 q7 q8 z0 x2 yL hbw;obtain⟨Y1,hY1⟩:∃Z,Y.set cc (zei n (r,u,l,t))=Z:=⟨_,rfl⟩;rw[hY1]at D1 HYN;have HLY1:Hid (Y1.length=T.length):=(by rw[<-hY1];show (Y.set cc _).length=T.length;rw[List.length_set];exact HLY.out);have HY1:Hid (Y1=zet n FP L (j+1)):=HYN.out.symm;clear hY1 HYN HY HLY hcY hv0 hv1;by_cases hk:(kk:Int)<=(j:Int)
   ·have ⟨⟨_,q0⟩,⟨_,q1⟩,⟨_,q2⟩,⟨_,q3⟩,⟨_,q4⟩,⟨_,q5⟩,⟨_,q6⟩,⟨_,q7⟩,⟨_,q8⟩,_⟩:=D1.out.kept.cells;rw[HLX.out]at q7;rw[HLY1.out]at q8;obtain⟨aL1,cL1',eL,is1⟩:=I1.out.smp;injection eL with eL1 eL2 eL3;subst eL1;clear eL2 eL3;have HXN:Hid (zc2 n kk FO L (j+1)=X.set cc (zej n X[cc])):=HX1.out hk;clear HX1 HX2;obtain⟨x0,x1,x2,x3⟩:=(zf0 D1.out.rO).cells (brf _ _) cc hcX;have hv:=zn8 (L:=L) (k:=kk) hsg lvO j;rw[<-HX.out]at hv;have hv:=hv cc hcX;have z0:∀j,wq.frozen? ⟨gO,j,none⟩=false:=fun j=>D1.out.rO.frozenAt j;have nOL:gO≠bL:=(by have:=D1.out.nO;omega);obtain⟨bL',oL',eL,_,yL⟩:=is1 j hlt;cases eL
    rw[HCC.out]at yL;have HD:∀m:Nat,Hid (FlSt w ((wq.drewN m).setCell ⟨gO,cc*4+2,none⟩ (.int .i64 (max 0 (X[cc].2.2.1-1000000000*n)))) b2 (.slice aT T.length cT) (.slice aO O.length cO) (.slice aP P.length cP) gT dT gO dO gP dP T (X.set cc (zej n X[cc])) Y1):=fun m=>(D1.out.next (zan (brf _ _) m)).lvlO cc hcX _;have hI:∀(m:Nat) (v:Value),Hid (IV ((wq.drewN m).setCell ⟨gO,cc*4+2,none⟩ v) (b2+1) (.slice (some ⟨bL,oL,none⟩) L.length cL) L):=fun m v=>(I1.out.next (zan (brf _ _) m)).onlyO (OnlyO.of_only ((Only.refl gO _).setCell rfl _)) (fun g hg e=>nOL ((osi e).trans (osi hg).symm));obtain⟨b,hb⟩:∃b,X[cc]=b:=⟨_,rfl⟩;rw[hb]at x2 hv HXN HD;obtain⟨r',u',l',t'⟩:=b;simp only[Nat.zero_add]at x2 hv;clear hb x0 x1 x3;have hv0:=hv.1;have hv1:=hv.2;clear hv;have HX3:Hid (X.set cc (zej n (r',u',l',t'))=zc2 n kk FO L (j+1)):=HXN.out.symm;clear HXN HX;go_upto_region 14 with (fail);go_quiet (fail);go_wp2_with (first|(go_at_call 83;refine same1 (zox _ _ _) ?_));go_roundw;all_goals first| exact⟨j+1,_,Y1,by go_num,by omega,HX3,HY1,hI _ _,HD _⟩| (simp[intOf];done)| (simp[intOf];omega)
   ·have HXN:Hid (zc2 n kk FO L (j+1)=X):=HX2.out hk;clear HX1 HX2;have HX3:Hid (X=zc2 n kk FO L (j+1)):=HXN.out.symm;have hk':¬(kk:Int)<=(j:Int):=hk;go_wp2;go_roundw;all_goals first| exact⟨j+1,X,Y1,by go_num,by omega,HX3,HY1,I1,D1⟩| (simp[intOf];done)| (simp[intOf];omega)
  ·have e:j=L.length:=(by omega);subst e;have fr:=(D.out.kept.free (w.heap.size+1) (List.mem_singleton.2 rfl)).2;have n1:w.heap.size+1≠b2:=(by have:=D.out.lo;omega);have hfin:=zx1 D.out (a:=.slice (some ⟨gT,0,none⟩) T.length dT) (b:=.slice (some ⟨gO,0,none⟩) X.length dO) (c:=.slice (some ⟨gP,0,none⟩) Y.length dP);rw[HLX.out,HLY.out]at hfin;go_wp2;refine bodyPost_ret (zah rfl _ _ _ [.slice (some ⟨gT,0,none⟩) T.length dT,.slice (some ⟨gO,0,none⟩) T.length dO,.slice (some ⟨gP,0,none⟩) T.length dP] rfl (zeb (u0:=.slice none 0 0) (u1:=.slice none 0 0) (u2:=.slice none 0 0) _ _ _ q3 q4 q5) Tryz.underlying27 rfl (by kernel_rfl)) rfl ?_;rw[<-HX.out,<-HY.out];exact⟨_,_,_,_,_,_,_,_,_,rfl,hfin.1,hfin.2⟩
theorem zo3(hT:Qw w aT T)(hO:Qw w aO O)(hP:Qw w aP P):
 Calls Tryz.prog 175 #[zea aT T.length cT aO O.length cO aP P.length cP,.int .i64 leaf,.int .i64 now,.int .i64 n] w (zh3 w (zx0 T O P leaf now n) (zg2 T O P leaf now n) (zg3 T O P leaf now n) (zn7 T O P leaf now n)):=by
 unfold zx0 zg2 zg3 zn7;cases h1:zcy T O P leaf now n
 ·exact zqv cT cO cP leaf now n hT hO hP h1
 ·rcases zqn T O P leaf now n with h2|h2
  ·have e:=zne cT cO cP leaf now n hT hO hP h1 h2;rw[h2];exact e
  ·obtain⟨k,hk⟩:∃k:Nat,zf1 T O P leaf now n=k:=⟨(zf1 T O P leaf now n).toNat,by omega⟩;have e:=zo1 cT cO cP leaf now n hT hO hP h1 k hk;have hn:¬((k:Int)<0):=(by omega);have hd:decide (0<=(k:Int))=true:=decide_eq_true (by omega);rw[hk,hd,if_pos rfl,if_neg hn,if_pos rfl,if_neg hn,if_pos rfl];exact e
end
end Go.Proofs.YthiojkjcmhojoaaGreat
