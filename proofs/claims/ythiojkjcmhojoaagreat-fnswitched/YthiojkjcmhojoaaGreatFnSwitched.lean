/- Proved: whatever the bytes, the law FnSwitched returns true (at the Engines and numbers that the model draws of them impl's Switch answers as spec's does; a refused Engine stays as it was; else every connection keeps its sizes and what it has in flight, the one that is switched has the kind told, no greater window and is not slow, the others are as they were, and the Engine is right again), and the bytes read as before; no condition. -/
import Derived.Test.YthiojkjcmhojoaaGreatGrpBN
namespace Go.Proofs.YthiojkjcmhojoaaGreat.fnSwitched
set_option maxHeartbeats 16000000
open Go.ChangeShapes Go.WideShapes Go.ChangeAt Go.RowKit
open Go.ChangeMaps (open_string shut_string)
set_option linter.unusedVariables false
theorem own:ownKnob Tryz.prog.godebug=none:=by kernel_rfl
theorem z0z:laidOutB Tryz.prog=true:=by kernel_rfl
def z02 (k:IntKind) (w:World) (a:Option Addr) (len cap:Nat) (zs:List Int):Prop :=
 (a=none∧len=0∧cap=0∧zs=[]) ∨
 ∃x,a=some x∧len≤cap∧cap≤maxLen∧zs.length=cap∧(∀i,i<zs.length→w.cell? (x.add i)=some (.int k (zs.getD i 0)))∧∀n ∈ zs,(Lit.int k n).wf=true
set_option linter.unusedSimpArgs false
set_option linter.unusedVariables false
set_option maxRecDepth 100000
theorem row_of {w:World} {a:Option Addr} {len cap:Nat} {zs:List Int} (h:z02 .u8 w a len cap zs):Row w.heap.size a len w:=by
 intro i hi
 rcases h with ⟨rfl,rfl,rfl,rfl⟩|⟨x,rfl,hl,hm,hz,hcell,hwz⟩
 ·omega
 ·obtain ⟨b,off,spot⟩:=x
  have hspot:spot=none:=by simpa [Addr.add] using World.cell?_spot (hcell 0 (by omega))
  subst hspot
  have hc:=hcell i (by omega)
  have hc':w.cell? ⟨b,off+i,none⟩=some (.int .u8 (zs.getD i 0)):=by
   by_cases h0:i=0
   ·subst h0;simpa [Addr.add] using hc
   ·simpa [Addr.add,h0] using hc
  have hlt:i<zs.length:=by omega
  have hm:zs.getD i 0 ∈ zs:=by simp [List.getD,List.getElem?_eq_getElem hlt]
  obtain ⟨z0,z1⟩:=bounds_u8 (hwz _ hm)
  exact ⟨b,off,zs.getD i 0,rfl,World.block_lt_of_cell? w _ hc',hc',z0,z1⟩
theorem walk (a0:Option Addr) (len0 cap0:Nat) (z0:List Int) (w:World) (w0:z02 .u8 w a0 len0 cap0 z0) :
 Calls Tryz.prog 6 #[.slice a0 len0 cap0] w fun e w'=>e=.returned (.bool true)∧Below w.heap.size w w':=by
 have row:=row_of w0
 by_cases hs:len0≤4096
 ·go_enter Tryz.func6,Tryz.ntmps6
  go_upto_region 4 with (first
   | (go_at_call 26;refine (zl1 cap0 hs row (Nat.le_refl _)).mono ?_;rintro e v1 ⟨E,a1,a2,rfl,ee,sm,hkn,hbw⟩;have HEE:Hid (Eng v1 w.heap.size v1.heap.size (.slice E.aT E.T.length E.cT) (.slice E.aO E.O.length E.cO) (.slice E.aP E.P.length E.cP) (.slice E.aL E.L.length E.cL) (.slice E.aK E.K.length E.cK) E.T E.O E.P E.L E.K):=ee;have SM0:Hid (Small E.T E.O E.P E.L E.K):=sm;have HKN:Hid (E.K≠[]):=hkn;clear ee sm hkn;have zw:=hbw.size)
   | go_in)
  obtain ⟨v2,hv2⟩:∃x,x=v1.alloc (.cells #[.int .i64 E.now,.slice E.aT E.T.length E.cT,.slice E.aO E.O.length E.cO,.slice E.aP E.P.length E.cP,.slice E.aL E.L.length E.cL,.slice E.aK E.K.length E.cK,.int .i64 E.nx] 31):=⟨_,rfl⟩
  obtain ⟨be,ebe⟩:∃b,b=v1.heap.size:=⟨_,rfl⟩
  rw [←hv2,←ebe]
  have ybe:v1.heap.size≤be∧be≤v1.heap.size:=by omega
  have ube:be<v2.heap.size:=by rw [hv2,ebe];simp
  have kv2:Below v1.heap.size v1 v2:=by rw [hv2];exact zac _ _
  have DP:Hid (Lay v2 (be) [.int .i64 E.now,.slice E.aT E.T.length E.cT,.slice E.aO E.O.length E.cO,.slice E.aP E.P.length E.cP,.slice E.aL E.L.length E.cL,.slice E.aK E.K.length E.cK,.int .i64 E.nx]):=by rw [hv2,ebe];exact zb5 _ _ rfl
  clear hv2 ebe
  have hbw:Below w.heap.size w v2:=zaa hbw kv2
  have zw:=hbw.size
  have zz:=kv2.size
  have HEE:=zs8 HEE kv2
  obtain ⟨p0,p1,p2,p3,p4,p5,p6⟩:=Lay.c7 (b:=be) DP.out
  obtain ⟨YN,YX,YT,YO,YP,YL,YK,f,hY,hcs,hsp,him⟩:=swsL E.now E.nx E.T E.O E.P E.L E.K a1 a2 (Nat.le_trans SM0.out.t (by decide)) (Nat.le_trans SM0.out.l (by decide)) (fun f hf=>Nat.le_trans (SM0.out.lm f hf) (by decide)) (Nat.le_trans SM0.out.k (by decide)) (fun c hc=>Nat.le_trans (SM0.out.km c hc) (by decide))
  have SMY:Hid (Small YT YO YP YL YK):=hY
  have HCS:Hid ((f=1∧YN=0∧YX=0∧YT=[]∧YO=[]∧YP=[]∧YL=[]∧YK=[])∨(f≠0∧f≠1∧YN=E.now∧YX=E.nx∧YT=E.T∧YO=E.O∧YP=E.P∧YL=E.L∧YK=E.K)∨(f=0∧EgOk YN YX YT YO YP YL YK∧EgOk E.now E.nx E.T E.O E.P E.L E.K∧SwF a1 a2 E.K YK)):=hcs
  have HSP:Hid (∀(w:World) (aT aO aP aL aK:Option Addr) (cT cO cP cL cK:Nat),Quad w.heap.size w aT E.T→Quad w.heap.size w aO E.O→Quad w.heap.size w aP E.P→Fls w.heap.size w aL E.L→Kls w.heap.size w aK E.K→Calls Tryz.prog 28 #[zck E.now aT E.T.length cT aO E.O.length cO aP E.P.length cP aL E.L.length cL aK E.K.length cK E.nx,.int .i64 a1,.int .i64 a2] w (zbv w YN YX YT YO YP YL YK (.int .i64 f))):=hsp
  have HIM:Hid (∀(w:World) (aT aO aP aL aK:Option Addr) (cT cO cP cL cK:Nat),Quad w.heap.size w aT E.T→Quad w.heap.size w aO E.O→Quad w.heap.size w aP E.P→Fls w.heap.size w aL E.L→Kls w.heap.size w aK E.K→Calls Tryz.prog 27 #[zck E.now aT E.T.length cT aO E.O.length cO aP E.P.length cP aL E.L.length cL aK E.K.length cK E.nx,.int .i64 a1,.int .i64 a2] w (zbv w YN YX YT YO YP YL YK (.int .i64 f))):=him
  clear hsp him hcs hY
  go_upto_region 5 with (first
   | (go_at_call 27;obtain ⟨QT,QO,QP,QL,QK⟩:=zdm HEE.out;refine (HIM.out _ _ _ _ _ _ _ _ _ _ _ QT QO QP QL QK).mono ?_;rintro e vI ⟨aiT,ciT,aiO,ciO,aiP,ciP,aiL,ciL,aiK,ciK,rfl,ey,hbP⟩;have HEI:Hid (Eng vI v2.heap.size vI.heap.size (.slice aiT YT.length ciT) (.slice aiO YO.length ciO) (.slice aiP YP.length ciP) (.slice aiL YL.length ciL) (.slice aiK YK.length ciK) YT YO YP YL YK):=ey;have hbw:Below w.heap.size w vI:=zaa hbw hbP;have zw:=hbw.size;have zz:=hbP.size;clear p0 p1 p2 p3 p4 p5 p6;have DP:=zrz DP hbP;obtain ⟨p0,p1,p2,p3,p4,p5,p6⟩:=Lay.c7 (b:=be) DP.out;have HEE:=zs8 HEE hbP))
  obtain ⟨v3,hv3⟩:∃x,x=vI.alloc (.cells #[.int .i64 YN,.slice aiT YT.length ciT,.slice aiO YO.length ciO,.slice aiP YP.length ciP,.slice aiL YL.length ciL,.slice aiK YK.length ciK,.int .i64 YX] 31):=⟨_,rfl⟩
  obtain ⟨bx,ebx⟩:∃b,b=vI.heap.size:=⟨_,rfl⟩
  rw [←hv3,←ebx]
  have ybx:vI.heap.size≤bx∧bx≤vI.heap.size:=by omega
  have ubx:bx<v3.heap.size:=by rw [hv3,ebx];simp
  have kv3:Below vI.heap.size vI v3:=by rw [hv3];exact zac _ _
  have DX:Hid (Lay v3 (bx) [.int .i64 YN,.slice aiT YT.length ciT,.slice aiO YO.length ciO,.slice aiP YP.length ciP,.slice aiL YL.length ciL,.slice aiK YK.length ciK,.int .i64 YX]):=by rw [hv3,ebx];exact zb5 _ _ rfl
  clear hv3 ebx
  have hbw:Below w.heap.size w v3:=zaa hbw kv3
  have zw:=hbw.size
  have zz:=kv3.size
  clear p0 p1 p2 p3 p4 p5 p6
  have DP:=zrz DP kv3
  obtain ⟨p0,p1,p2,p3,p4,p5,p6⟩:=Lay.c7 (b:=be) DP.out
  have HEE:=zs8 HEE kv3
  have HEI:=zs8 HEI kv3
  obtain ⟨xx0,xx1,xx2,xx3,xx4,xx5,xx6⟩:=Lay.c7 (b:=bx) DX.out
  go_upto_region 6 with (first
   | (go_at_call 28;obtain ⟨QT,QO,QP,QL,QK⟩:=zdm HEE.out;refine (HSP.out _ _ _ _ _ _ _ _ _ _ _ QT QO QP QL QK).mono ?_;rintro e vS ⟨asT,csT,asO,csO,asP,csP,asL,csL,asK,csK,rfl,ey,hbP⟩;have HES:Hid (Eng vS v3.heap.size vS.heap.size (.slice asT YT.length csT) (.slice asO YO.length csO) (.slice asP YP.length csP) (.slice asL YL.length csL) (.slice asK YK.length csK) YT YO YP YL YK):=ey;have hbw:Below w.heap.size w vS:=zaa hbw hbP;have zw:=hbw.size;have zz:=hbP.size;clear p0 p1 p2 p3 p4 p5 p6;have DP:=zrz DP hbP;obtain ⟨p0,p1,p2,p3,p4,p5,p6⟩:=Lay.c7 (b:=be) DP.out;clear xx0 xx1 xx2 xx3 xx4 xx5 xx6;have DX:=zrz DX hbP;obtain ⟨xx0,xx1,xx2,xx3,xx4,xx5,xx6⟩:=Lay.c7 (b:=bx) DX.out;have HEE:=zs8 HEE hbP;have HEI:=zs8 HEI hbP))
  obtain ⟨v4,hv4⟩:∃x,x=vS.alloc (.cells #[.int .i64 YN,.slice asT YT.length csT,.slice asO YO.length csO,.slice asP YP.length csP,.slice asL YL.length csL,.slice asK YK.length csK,.int .i64 YX] 31):=⟨_,rfl⟩
  obtain ⟨bs,ebs⟩:∃b,b=vS.heap.size:=⟨_,rfl⟩
  rw [←hv4,←ebs]
  have ybs:vS.heap.size≤bs∧bs≤vS.heap.size:=by omega
  have ubs:bs<v4.heap.size:=by rw [hv4,ebs];simp
  have kv4:Below vS.heap.size vS v4:=by rw [hv4];exact zac _ _
  have DS:Hid (Lay v4 (bs) [.int .i64 YN,.slice asT YT.length csT,.slice asO YO.length csO,.slice asP YP.length csP,.slice asL YL.length csL,.slice asK YK.length csK,.int .i64 YX]):=by rw [hv4,ebs];exact zb5 _ _ rfl
  clear hv4 ebs
  have hbw:Below w.heap.size w v4:=zaa hbw kv4
  have zw:=hbw.size
  have zz:=kv4.size
  clear p0 p1 p2 p3 p4 p5 p6
  have DP:=zrz DP kv4
  obtain ⟨p0,p1,p2,p3,p4,p5,p6⟩:=Lay.c7 (b:=be) DP.out
  clear xx0 xx1 xx2 xx3 xx4 xx5 xx6
  have DX:=zrz DX kv4
  obtain ⟨xx0,xx1,xx2,xx3,xx4,xx5,xx6⟩:=Lay.c7 (b:=bx) DX.out
  have HEE:=zs8 HEE kv4
  have HEI:=zs8 HEI kv4
  have HES:=zs8 HES kv4
  obtain ⟨ss0,ss1,ss2,ss3,ss4,ss5,ss6⟩:=Lay.c7 (b:=bs) DS.out
  go_upto_region 8 with (first
   | (go_at_call 12;obtain ⟨QT,QO,QP,QL,QK⟩:=zdm HEI.out;obtain ⟨RT,RO,RP,RL,RK⟩:=zdm HES.out;refine (zix YN YX _ _ _ _ _ _ _ _ _ _ QT QO QP QL QK RT RO RP RL RK (Nat.le_trans SMY.out.t (by decide)) (Nat.le_trans SMY.out.o (by decide)) (Nat.le_trans SMY.out.p (by decide)) (Nat.le_trans SMY.out.l (by decide)) (fun f hf=>Nat.le_trans (SMY.out.lm f hf) (by decide)) (Nat.le_trans SMY.out.k (by decide)) (fun c hc=>Nat.le_trans (SMY.out.km c hc) (by decide))).mono ?_;rintro e v5 ⟨rfl,hbE⟩;have hbw:Below w.heap.size w v5:=zaa hbw hbE;have zw:=hbw.size;have zz:=hbE.size;clear p0 p1 p2 p3 p4 p5 p6;have DP:=zrz DP hbE;obtain ⟨p0,p1,p2,p3,p4,p5,p6⟩:=Lay.c7 (b:=be) DP.out;clear xx0 xx1 xx2 xx3 xx4 xx5 xx6;have DX:=zrz DX hbE;obtain ⟨xx0,xx1,xx2,xx3,xx4,xx5,xx6⟩:=Lay.c7 (b:=bx) DX.out;clear ss0 ss1 ss2 ss3 ss4 ss5 ss6;have DS:=zrz DS hbE;obtain ⟨ss0,ss1,ss2,ss3,ss4,ss5,ss6⟩:=Lay.c7 (b:=bs) DS.out;have HEE:=zs8 HEE hbE;have HEI:=zs8 HEI hbE;have HES:=zs8 HES hbE))
  clear DS HES HSP HIM
  clear ss0 ss1 ss2 ss3 ss4 ss5 ss6
  rcases HCS.out with ⟨e0,e1,e2,e3,e4,e5,e6,e7⟩|⟨h0,h1,e1,e2,e3,e4,e5,e6,e7⟩|⟨e0,hok,hok0,HFACT⟩
  ·clear HCS
   subst e0 e1 e2 e3 e4 e5 e6 e7
   go_wp2_with (first
    | (go_at_call 12;obtain ⟨QT,QO,QP,QL,QK⟩:=zdm HEI.out;refine (zix (bT:=none) (bO:=none) (bP:=none) (bL:=none) (bK:=none) 0 0 _ _ _ _ _ 0 0 0 0 0 QT QO QP QL QK (Quad.nil _ _ _) (Quad.nil _ _ _) (Quad.nil _ _ _) (Fls.nil _ _ _) (Kls.nil _ _ _) (by decide) (by decide) (by decide) (by decide) (fun f hf=>by cases hf) (by decide) (fun c hc=>by cases hc)).mono ?_;rintro e v6 ⟨rfl,hbE⟩;have hbw:Below w.heap.size w v6:=zaa hbw hbE))
   go_ret
   exact ⟨rfl,hbw⟩
  ·clear HCS
   subst e1 e2 e3 e4 e5 e6 e7
   go_wp2_with (first
    | (go_at_call 12;obtain ⟨QT,QO,QP,QL,QK⟩:=zdm HEI.out;obtain ⟨RT,RO,RP,RL,RK⟩:=zdm HEE.out;refine (zix E.now E.nx _ _ _ _ _ _ _ _ _ _ QT QO QP QL QK RT RO RP RL RK (Nat.le_trans SM0.out.t (by decide)) (Nat.le_trans SM0.out.o (by decide)) (Nat.le_trans SM0.out.p (by decide)) (Nat.le_trans SM0.out.l (by decide)) (fun f hf=>Nat.le_trans (SM0.out.lm f hf) (by decide)) (Nat.le_trans SM0.out.k (by decide)) (fun c hc=>Nat.le_trans (SM0.out.km c hc) (by decide))).mono ?_;rintro e v6 ⟨rfl,hbE⟩;have hbw:Below w.heap.size w v6:=zaa hbw hbE;have zw:=hbw.size;have zz:=hbE.size;clear p0 p1 p2 p3 p4 p5 p6;have DP:=zrz DP hbE;obtain ⟨p0,p1,p2,p3,p4,p5,p6⟩:=Lay.c7 (b:=be) DP.out;clear xx0 xx1 xx2 xx3 xx4 xx5 xx6;have DX:=zrz DX hbE;obtain ⟨xx0,xx1,xx2,xx3,xx4,xx5,xx6⟩:=Lay.c7 (b:=bx) DX.out;have HEE:=zs8 HEE hbE;have HEI:=zs8 HEI hbE))
   go_ret
   exact ⟨rfl,hbw⟩
  ·clear HCS
   subst e0
   have HBY:Hid (zcr YN YX YT YO YP YL YK=true):=zgo hok
   have HF:Hid (SwF a1 a2 E.K YK):=HFACT
   have HYL:Hid (YK.length=E.K.length):=HFACT.1
   have hk100:=SM0.out.k
   clear hok hok0 HFACT HKN
   obtain ⟨q1,q2,q3,q4,QK0⟩:=zdm HEE.out
   obtain ⟨q5,q6,q7,q8,RK0⟩:=zdm HEI.out
   have HQK:Hid (Kls v5.heap.size v5 E.aK E.K):=QK0
   have HRK:Hid (Kls v5.heap.size v5 aiK YK):=RK0
   clear q1 q2 q3 q4 q5 q6 q7 q8 QK0 RK0
   go_upto_region 12 with (fail)
   go_wp2
   go_loopw [10] (fun i wr=>∃j:Nat,i=.int .i64 j∧j≤E.K.length∧Hid (Below v5.heap.size v5 wr)) (fun i _=>E.K.length-(intOf i).toNat)
   case atStart=>exact ⟨0,rfl,by omega,Below.refl _ _⟩
   case round =>
    obtain ⟨j,rfl,hj,HB⟩:=hrel
    have D1:=zrz DP HB.out
    have D2:=zrz DX HB.out
    clear p0 p1 p2 p3 p4 p5 p6 xx0 xx1 xx2 xx3 xx4 xx5 xx6
    obtain ⟨p0,p1,p2,p3,p4,p5,p6⟩:=D1.out.c7
    obtain ⟨r0,r1,r2,r3,r4,r5,r6⟩:=D2.out.c7
    by_cases hlt:j<E.K.length
    ·have hlt':(j:Int)<(E.K.length:Int):=by omega
     have hj0:(0:Int)≤(j:Int):=by omega
     have hly:j<YK.length:=by rw [HYL.out];exact hlt
     have hly':(j:Int)<(YK.length:Int):=by omega
     obtain ⟨f1,f2,f3⟩:=HF.out.2 j hlt hly
     obtain ⟨g1,o1,s1,n1,k1,hg1,x0,x13,m1⟩:=HQK.out j hlt
     obtain ⟨g2,o2,s2,n2,k2,hg2,y0,y13,m2⟩:=HRK.out j hly
     have hxl:E.K[j].xs.length≤1000:=SM0.out.km _ (List.getElem_mem hlt)
     obtain ⟨z,hz⟩:∃z,E.K[j]=z:=⟨_,rfl⟩
     obtain ⟨y,hy⟩:∃y,YK[j]=y:=⟨_,rfl⟩
     rw [hz] at f1 f2 f3 x0 x13 m1 hxl
     rw [hy] at f1 f2 f3 y0 y13 m2
     rw [k1] at p5
     rw [k2] at r5
     have F1:Hid (y.xs=z.xs):=f1
     have F2:Hid (y.fl=z.fl):=f2
     have F3:Hid ((z.id=a1∧y.k=a2∧y.wn≤z.wn∧y.sl=false)∨(z.id≠a1∧y=z)):=f3
     have HK2:Hid (aiK=some ⟨g2,o2,none⟩):=k2
     clear hz hy f1 f2 f3 k1 k2
     have e0:wr.cell? ⟨g1,o1+j*14,none⟩=some (.int .i64 z.id):=(HB.out.cell (by exact hg1)).trans (x0 0 _ rfl)
     have e1:wr.cell? ⟨g1,o1+j*14+1,none⟩=some (.int .i64 z.lf):=(HB.out.cell (by exact hg1)).trans (x0 1 _ rfl)
     have e2:wr.cell? ⟨g1,o1+j*14+2,none⟩=some (.int .i64 z.pl):=(HB.out.cell (by exact hg1)).trans (x0 2 _ rfl)
     have e3:wr.cell? ⟨g1,o1+j*14+3,none⟩=some (.int .i64 z.k):=(HB.out.cell (by exact hg1)).trans (x0 3 _ rfl)
     have e4:wr.cell? ⟨g1,o1+j*14+4,none⟩=some (.int .i64 z.wn):=(HB.out.cell (by exact hg1)).trans (x0 4 _ rfl)
     have e5:wr.cell? ⟨g1,o1+j*14+5,none⟩=some (.int .i64 z.th):=(HB.out.cell (by exact hg1)).trans (x0 5 _ rfl)
     have e6:wr.cell? ⟨g1,o1+j*14+6,none⟩=some (.int .i64 z.fl):=(HB.out.cell (by exact hg1)).trans (x0 6 _ rfl)
     have e7:wr.cell? ⟨g1,o1+j*14+7,none⟩=some (.int .i64 z.ac):=(HB.out.cell (by exact hg1)).trans (x0 7 _ rfl)
     have e8:wr.cell? ⟨g1,o1+j*14+8,none⟩=some (.int .i64 z.la):=(HB.out.cell (by exact hg1)).trans (x0 8 _ rfl)
     have e9:wr.cell? ⟨g1,o1+j*14+9,none⟩=some (.int .i64 z.og):=(HB.out.cell (by exact hg1)).trans (x0 9 _ rfl)
     have e10:wr.cell? ⟨g1,o1+j*14+10,none⟩=some (.int .i64 z.st):=(HB.out.cell (by exact hg1)).trans (x0 10 _ rfl)
     have e11:wr.cell? ⟨g1,o1+j*14+11,none⟩=some (.int .i64 z.fr):=(HB.out.cell (by exact hg1)).trans (x0 11 _ rfl)
     have e12:wr.cell? ⟨g1,o1+j*14+12,none⟩=some (.bool z.sl):=(HB.out.cell (by exact hg1)).trans (x0 12 _ rfl)
     have e13:wr.cell? ⟨g1,o1+j*14+13,none⟩=some (.slice s1 z.xs.length n1):=(HB.out.cell (by exact hg1)).trans (x13)
     clear x0 x13
     go_upto_region 16 with (fail)
     obtain ⟨y1,hy1,LK1,by1⟩:=zdy wr 47 [.int .i64 z.id,.int .i64 z.lf,.int .i64 z.pl,.int .i64 z.k,.int .i64 z.wn,.int .i64 z.th,.int .i64 z.fl,.int .i64 z.ac,.int .i64 z.la,.int .i64 z.og,.int .i64 z.st,.int .i64 z.fr,.bool z.sl,.slice s1 z.xs.length n1]
     rw [←hy1]
     clear hy1 e0 e1 e2 e3 e4 e5 e6 e7 e8 e9 e10 e11 e12 e13 p0 p1 p2 p3 p4 p5 p6
     have R1:=zrz D2 by1
     clear r0 r1 r2 r3 r4 r5 r6
     obtain ⟨r0,r1,r2,r3,r4,r5,r6⟩:=R1.out.c7
     rw [HK2.out] at r5
     rw [F1.out] at y13 m2
     have hb3:Below v5.heap.size v5 y1:=zaa HB.out by1
     have c0:y1.cell? ⟨g2,o2+j*14,none⟩=some (.int .i64 y.id):=(hb3.cell (by exact hg2)).trans (y0 0 _ rfl)
     have c1:y1.cell? ⟨g2,o2+j*14+1,none⟩=some (.int .i64 y.lf):=(hb3.cell (by exact hg2)).trans (y0 1 _ rfl)
     have c2:y1.cell? ⟨g2,o2+j*14+2,none⟩=some (.int .i64 y.pl):=(hb3.cell (by exact hg2)).trans (y0 2 _ rfl)
     have c3:y1.cell? ⟨g2,o2+j*14+3,none⟩=some (.int .i64 y.k):=(hb3.cell (by exact hg2)).trans (y0 3 _ rfl)
     have c4:y1.cell? ⟨g2,o2+j*14+4,none⟩=some (.int .i64 y.wn):=(hb3.cell (by exact hg2)).trans (y0 4 _ rfl)
     have c5:y1.cell? ⟨g2,o2+j*14+5,none⟩=some (.int .i64 y.th):=(hb3.cell (by exact hg2)).trans (y0 5 _ rfl)
     have c6:y1.cell? ⟨g2,o2+j*14+6,none⟩=some (.int .i64 y.fl):=(hb3.cell (by exact hg2)).trans (y0 6 _ rfl)
     have c7:y1.cell? ⟨g2,o2+j*14+7,none⟩=some (.int .i64 y.ac):=(hb3.cell (by exact hg2)).trans (y0 7 _ rfl)
     have c8:y1.cell? ⟨g2,o2+j*14+8,none⟩=some (.int .i64 y.la):=(hb3.cell (by exact hg2)).trans (y0 8 _ rfl)
     have c9:y1.cell? ⟨g2,o2+j*14+9,none⟩=some (.int .i64 y.og):=(hb3.cell (by exact hg2)).trans (y0 9 _ rfl)
     have c10:y1.cell? ⟨g2,o2+j*14+10,none⟩=some (.int .i64 y.st):=(hb3.cell (by exact hg2)).trans (y0 10 _ rfl)
     have c11:y1.cell? ⟨g2,o2+j*14+11,none⟩=some (.int .i64 y.fr):=(hb3.cell (by exact hg2)).trans (y0 11 _ rfl)
     have c12:y1.cell? ⟨g2,o2+j*14+12,none⟩=some (.bool y.sl):=(hb3.cell (by exact hg2)).trans (y0 12 _ rfl)
     have c13:y1.cell? ⟨g2,o2+j*14+13,none⟩=some (.slice s2 z.xs.length n2):=(hb3.cell (by exact hg2)).trans (y13)
     clear y0 y13
     go_upto_region 17 with (fail)
     obtain ⟨y2,hy2,LK2,by2⟩:=zdy y1 47 [.int .i64 y.id,.int .i64 y.lf,.int .i64 y.pl,.int .i64 y.k,.int .i64 y.wn,.int .i64 y.th,.int .i64 y.fl,.int .i64 y.ac,.int .i64 y.la,.int .i64 y.og,.int .i64 y.st,.int .i64 y.fr,.bool y.sl,.slice s2 z.xs.length n2]
     rw [←hy2]
     clear hy2 c0 c1 c2 c3 c4 c5 c6 c7 c8 c9 c10 c11 c12 c13 r0 r1 r2 r3 r4 r5 r6
     have hb4:Below v5.heap.size v5 y2:=zaa hb3 by2
     have LK1':=LK1.next by2
     have HI1:Hid (ISmp y2.heap.size y2 s1 z.xs):=m1.here hb4
     have HI2:Hid (ISmp y2.heap.size y2 s2 z.xs):=m2.here hb4
     have hd:decide (z.xs=z.xs)=true:=decide_eq_true rfl
     have HXL:Hid (z.xs.length≤1000):=hxl
     clear m1 m2 hxl
     rcases F3.out with ⟨h1,h2,h3,h4⟩|⟨h1,h2⟩
     ·have LK2:Lay y2 y1.heap.size [.int .i64 y.id,.int .i64 y.lf,.int .i64 y.pl,.int .i64 a2,.int .i64 y.wn,.int .i64 y.th,.int .i64 z.fl,.int .i64 y.ac,.int .i64 y.la,.int .i64 y.og,.int .i64 y.st,.int .i64 y.fr,.bool false,.slice s2 z.xs.length n2]:=by rw [←h2,←h4,←F2.out];exact LK2
      have LK1':Lay y2 wr.heap.size [.int .i64 a1,.int .i64 z.lf,.int .i64 z.pl,.int .i64 z.k,.int .i64 z.wn,.int .i64 z.th,.int .i64 z.fl,.int .i64 z.ac,.int .i64 z.la,.int .i64 z.og,.int .i64 z.st,.int .i64 z.fr,.bool z.sl,.slice s1 z.xs.length n1]:=by rw [←h1];exact LK1'
      have hw:¬z.wn<y.wn:=by omega
      clear h1 h2 h3 h4 LK1
      obtain ⟨q0,q1,q2,q3,q4,q5,q6,q7,q8,q9,q10,q11,q12,q13⟩:=LK1'.c14
      obtain ⟨z0,z1,z2,z3,z4,z5,z6,z7,z8,z9,z10,z11,z12,z13⟩:=LK2.c14
      go_wp2_with (first|(go_at_call 20;refine (zew n1 n2 HI1.out HI2.out (Nat.le_trans HXL.out (by decide))).mono ?_;rintro e u3 ⟨rfl,hb3'⟩;rw [hd];have hb5:Hid (Below v5.heap.size v5 u3):=zaa hb4 hb3';clear q0 z0 q1 z1 q2 z2 q3 z3 q4 z4 q5 z5 q6 z6 q7 z7 q8 z8 q9 z9 q10 z10 q11 z11 q12 z12 q13 z13;obtain ⟨q0,q1,q2,q3,q4,q5,q6,q7,q8,q9,q10,q11,q12,q13⟩:=(LK1'.next hb3').c14;obtain ⟨z0,z1,z2,z3,z4,z5,z6,z7,z8,z9,z10,z11,z12,z13⟩:=(LK2.next hb3').c14))
      go_roundw
      case rel=>exact ⟨j+1,by go_num,by omega,hb5⟩
      case measure=>simp [intOf];omega
     ·subst h2
      clear LK1
      obtain ⟨q0,q1,q2,q3,q4,q5,q6,q7,q8,q9,q10,q11,q12,q13⟩:=LK1'.c14
      obtain ⟨z0,z1,z2,z3,z4,z5,z6,z7,z8,z9,z10,z11,z12,z13⟩:=LK2.c14
      go_wp2_with (first|(go_at_call 20;refine (zew n1 n2 HI1.out HI2.out (Nat.le_trans HXL.out (by decide))).mono ?_;rintro e u3 ⟨rfl,hb3'⟩;rw [hd];have hb5:Hid (Below v5.heap.size v5 u3):=zaa hb4 hb3';clear q0 z0 q1 z1 q2 z2 q3 z3 q4 z4 q5 z5 q6 z6 q7 z7 q8 z8 q9 z9 q10 z10 q11 z11 q12 z12 q13 z13;obtain ⟨q0,q1,q2,q3,q4,q5,q6,q7,q8,q9,q10,q11,q12,q13⟩:=(LK1'.next hb3').c14;obtain ⟨z0,z1,z2,z3,z4,z5,z6,z7,z8,z9,z10,z11,z12,z13⟩:=(LK2.next hb3').c14))
      go_roundw
      case rel=>exact ⟨j+1,by go_num,by omega,hb5⟩
      case measure=>simp [intOf];omega
    ·have hmd:¬(j:Int)<(E.K.length:Int):=by omega
     go_wp2_with (first|(go_at_call 16;obtain ⟨QT,QO,QP,QL,QK⟩:=zdm HEI.out;refine (zdo _ _ _ _ _ HBY.out (QT.here HB.out) (QO.here HB.out) (QP.here HB.out) (QL.here HB.out) (QK.here HB.out) (Nat.le_trans SMY.out.l (by decide)) (fun f hf=>Nat.le_trans (SMY.out.lm f hf) (by decide)) (Nat.le_trans SMY.out.k (by decide)) (fun c hc=>Nat.le_trans (SMY.out.km c hc) (by decide))).mono ?_;rintro e vZ ⟨rfl,hbZ⟩))
     go_ret
     exact ⟨rfl,zaa (zaa hbw HB.out) hbZ⟩
 ·have hbig:(4096:Int)<(len0:Int):=by omega
  go_enter Tryz.func6,Tryz.ntmps6
  go_wp2
  go_ret
  exact ⟨rfl,Below.refl _ _⟩
set_option maxRecDepth 100000 in
theorem lifted (os:Os) (started:os.Started) (H:Type) (enc:TypeId × Value→H) :
 ReturnsInHanded {} Tryz.checked os 6 .any (Rows.fnSwitchedSpec.pre6 enc Tryz.prog Tryz.f6 Rows.fnSwitchedRow.domain false) (Rows.fnSwitchedSpec.post enc Tryz.prog Tryz.f6 false true false false):=by
 refine returnsInHanded_of_change (C:=Tryz.checked) own started (by kernel_rfl) Tryz.func6
  (ChangeSpec.witness6 (enc:=enc) (C:=Tryz.checked) false ⟨#[],#[.slice none 0 0],[]⟩ 8 (by kernel_rfl) (by kernel_rfl) (by kernel_rfl) (by kernel_rfl)) ?_
 intro W base args ds gs before hval0 hW hcnd _
 have hval:∀(j:Nat) t v,Tryz.f6.params[j]?=some t→args[j]?=some v→Value.okWide Tryz.prog W .any base t v:=hval0
 have hW':=hW
 obtain ⟨p,q,hA0,hV,rfl,hfz,hnd⟩:=hW
 have hA:DataW.TrodAll enc Tryz.prog W 0 (fun _=>true) true Tryz.f6.params.toList args.toList ds p:=hA0
 rw [Tryz.params6] at hA hval
 obtain ⟨v0,vs0,d0,ds0,p0,q0,hargs,rfl,rfl,h0,r0⟩:=trodAll_cons hA
 obtain ⟨rfl,rfl,rfl⟩:=trodAll_nil r0
 obtain rfl:args=#[v0]:=by cases args;simp_all
 obtain ⟨rfl,rfl⟩:=trodVars_none hV
 obtain ⟨a0,len0,cap0,rfl⟩:=okWide_slice Tryz.underlying22 (hval 0 22 v0 rfl rfl)
 have k0:=h0
 have lt0:∀x ∈ p0,x.block<W.heap.size:=by obtain ⟨m,hm⟩:=k0;exact DataW.trod_lt m _ _ _ hm
 obtain ⟨z0,w0⟩:∃zs,z02 .u8 W a0 len0 cap0 zs:=by
  obtain ⟨fuel,hf⟩:=h0
  rcases open_ints Tryz.underlying22 Tryz.underlying5 (by kernel_rfl) hf with ⟨hcs,_⟩|⟨x,l,c,zs,hcs,_,hl,hm,hz,_,hcell,hwz⟩
  ·simp [Value.cells] at hcs
   obtain ⟨rfl,rfl,rfl⟩:=hcs
   exact ⟨[],.inl ⟨rfl,rfl,rfl,rfl⟩⟩
  ·simp [Value.cells] at hcs
   obtain ⟨rfl,rfl,rfl⟩:=hcs
   exact ⟨zs,.inr ⟨_,rfl,hl,hm,by simpa using hz,hcell,hwz⟩⟩
 clear hA0 hval0
 refine (walk a0 len0 cap0 z0 W w0).mono fun e W' ⟨he,bel⟩=>?_
 subst he
 exact ⟨_,rfl,_,_,_,[],_,[],hW',trodAll_mk1 (shut_bool Tryz.underlying4 _),(trodAll_cons_mk (Below.trod z0z (by kernel_rfl) (of_decide_eq_true (by kernel_rfl)) k0 bel lt0) trodAll_mk0),rfl,bel.frame _,fun h=>by cases h⟩
theorem over:Rows.fnSwitchedRow.holds Tryz.pinned (OpenSpec.ofChange Rows.fnSwitchedSpec) :=
 OpenClaim.holds_of_wide 6 Tryz.f6 rfl rfl rfl rfl rfl rfl rfl ⟨rfl,rfl,rfl,rfl,rfl⟩ rfl rfl rfl rfl rfl (by kernel_rfl) Tryz.func6 (by kernel_rfl)
  (of_decide_eq_true (by kernel_rfl)) (by unfold Func.isWrapper;first|(rw [if_pos (by decide +kernel)];kernel_rfl)|(rw [if_neg (by decide +kernel)];exact ⟨rfl,rfl⟩))
  (fun os started H enc _=>lifted os started H enc)
theorem proved:Rows.FnSwitchedSaid:=over
#print axioms proved
end Go.Proofs.YthiojkjcmhojoaaGreat.fnSwitched
namespace Go.Proofs.YthiojkjcmhojoaaGreat
theorem fnSwitched_holds:Rows.FnSwitchedSaid:=fnSwitched.proved
#print axioms fnSwitched_holds
end Go.Proofs.YthiojkjcmhojoaaGreat
