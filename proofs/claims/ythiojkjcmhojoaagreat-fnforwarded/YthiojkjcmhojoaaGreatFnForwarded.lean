/- Proved: whatever the bytes, the law FnForwarded returns true (at the Engines and numbers that the model draws of them impl's Forward answers as spec's does; a refused Engine stays as it was; else no level falls, time that goes on in two steps goes on as in one, Now is what it was and the step, and the Engine is right again), and the bytes read as before; no condition. -/
import Derived.Test.YthiojkjcmhojoaaGreatGfBM
namespace Go.Proofs.YthiojkjcmhojoaaGreat.fnForwarded
set_option maxHeartbeats 16000000
open Go.ChangeShapes Go.WideShapes Go.ChangeAt Go.RowKit
open Go.ChangeMaps (open_string shut_string)
set_option linter.unusedVariables false
theorem own:ownKnob Tryz.prog.godebug=none:=by kernel_rfl
theorem z2b:laidOutB Tryz.prog=true:=by kernel_rfl
def z2c (k:IntKind) (w:World) (a:Option Addr) (len cap:Nat) (zs:List Int):Prop :=
 (a=none∧len=0∧cap=0∧zs=[]) ∨
 ∃x,a=some x∧len≤cap∧cap≤maxLen∧zs.length=cap∧(∀i,i<zs.length→w.cell? (x.add i)=some (.int k (zs.getD i 0)))∧∀n ∈ zs,(Lit.int k n).wf=true
set_option linter.unusedSimpArgs false
set_option linter.unusedVariables false
set_option maxRecDepth 100000
theorem row_of {w:World} {a:Option Addr} {len cap:Nat} {zs:List Int} (h:z2c .u8 w a len cap zs):Row w.heap.size a len w:=by
 intro i hi
 rcases h with ⟨rfl,rfl,rfl,rfl⟩|⟨x,rfl,hl,hm,hz,hcell,hwz⟩
 ·omega
 ·obtain ⟨b,off,spot⟩:=x
  have hspot:spot=none:=by simpa [Addr.add] using World.cell?_spot (hcell 0 (by omega))
  subst hspot
  have hc:=hcell i (by omega)
  have hc':w.cell? ⟨b,off+i,none⟩=some (.int .u8 (zs.getD i 0)):=by
   by_cases h0:i=0
   ·subst h0;simpa [Addr.add] using hc
   ·simpa [Addr.add,h0] using hc
  have hlt:i<zs.length:=by omega
  have hm:zs.getD i 0 ∈ zs:=by simp [List.getD,List.getElem?_eq_getElem hlt]
  obtain ⟨z0,z1⟩:=bounds_u8 (hwz _ hm)
  exact ⟨b,off,zs.getD i 0,rfl,World.block_lt_of_cell? w _ hc',hc',z0,z1⟩
theorem walk (a0:Option Addr) (len0 cap0:Nat) (z0:List Int) (w:World) (w0:z2c .u8 w a0 len0 cap0 z0) :
 Calls Tryz.prog 7 #[.slice a0 len0 cap0] w fun e w'=>e=.returned (.bool true)∧Below w.heap.size w w':=by
 have row:=row_of w0
 by_cases hs:len0≤4096
 ·go_enter Tryz.func7,Tryz.ntmps7
  go_upto_region 4 with (first
   | (go_at_call 29;refine (zl3 cap0 hs row (Nat.le_refl _)).mono ?_;rintro e v1 ⟨E,a1,rfl,ee,sm,hkn,hbw⟩;have HEE:Hid (Eng v1 w.heap.size v1.heap.size (.slice E.aT E.T.length E.cT) (.slice E.aO E.O.length E.cO) (.slice E.aP E.P.length E.cP) (.slice E.aL E.L.length E.cL) (.slice E.aK E.K.length E.cK) E.T E.O E.P E.L E.K):=ee;have SM0:Hid (Small E.T E.O E.P E.L E.K):=sm;have HKN:Hid (E.K≠[]):=hkn;clear ee sm hkn;have zw:=hbw.size)
   | go_in)
  obtain ⟨v2,hv2⟩:∃x,x=v1.alloc (.cells #[.int .i64 E.now,.slice E.aT E.T.length E.cT,.slice E.aO E.O.length E.cO,.slice E.aP E.P.length E.cP,.slice E.aL E.L.length E.cL,.slice E.aK E.K.length E.cK,.int .i64 E.nx] 31):=⟨_,rfl⟩
  obtain ⟨be,ebe⟩:∃b,b=v1.heap.size:=⟨_,rfl⟩
  rw [←hv2,←ebe]
  have ybe:v1.heap.size≤be∧be≤v1.heap.size:=by omega
  have ube:be<v2.heap.size:=by rw [hv2,ebe];simp
  have kv2:Below v1.heap.size v1 v2:=by rw [hv2];exact zac _ _
  have DP:Hid (Lay v2 (be) [.int .i64 E.now,.slice E.aT E.T.length E.cT,.slice E.aO E.O.length E.cO,.slice E.aP E.P.length E.cP,.slice E.aL E.L.length E.cL,.slice E.aK E.K.length E.cK,.int .i64 E.nx]):=by rw [hv2,ebe];exact zbs _ _ rfl
  clear hv2 ebe
  have hbw:Below w.heap.size w v2:=zaa hbw kv2
  have zw:=hbw.size
  have zz:=kv2.size
  have HEE:=zjv HEE kv2
  obtain ⟨p0,p1,p2,p3,p4,p5,p6⟩:=Lay.c7 (b:=be) DP.out
  obtain ⟨YN,YX,YT,YO,YP,YL,YK,f,hY,hcs,hsp,him⟩:=fwdsL E.now E.nx E.T E.O E.P E.L E.K a1 (Nat.le_trans SM0.out.t (by decide)) (Nat.le_trans SM0.out.l (by decide)) (fun f hf=>Nat.le_trans (SM0.out.lm f hf) (by decide)) (Nat.le_trans SM0.out.k (by decide)) (fun c hc=>Nat.le_trans (SM0.out.km c hc) (by decide))
  have SMY:Hid (Small YT YO YP YL YK):=hY
  have HCS:Hid ((f=1∧YN=0∧YX=0∧YT=[]∧YO=[]∧YP=[]∧YL=[]∧YK=[])∨(f≠0∧f≠1∧YN=E.now∧YX=E.nx∧YT=E.T∧YO=E.O∧YP=E.P∧YL=E.L∧YK=E.K)∨(f=0∧EgOk YN YX YT YO YP YL YK∧EgOk E.now E.nx E.T E.O E.P E.L E.K∧(zau a1=true∧¬1000000000000000<E.now+a1∧YN=E.now+a1∧YX=E.nx∧YT=E.T∧YO=zao (E.now+a1) E.O∧YP=zao (E.now+a1) E.P∧YL=E.L∧YK=E.K))):=hcs
  have HSP:Hid (∀(w:World) (aT aO aP aL aK:Option Addr) (cT cO cP cL cK:Nat),Quad w.heap.size w aT E.T→Quad w.heap.size w aO E.O→Quad w.heap.size w aP E.P→Fls w.heap.size w aL E.L→Kls w.heap.size w aK E.K→Calls Tryz.prog 31 #[zcp E.now aT E.T.length cT aO E.O.length cO aP E.P.length cP aL E.L.length cL aK E.K.length cK E.nx,.int .i64 a1] w (zbx w YN YX YT YO YP YL YK (.int .i64 f))):=hsp
  have HIM:Hid (∀(w:World) (aT aO aP aL aK:Option Addr) (cT cO cP cL cK:Nat),Quad w.heap.size w aT E.T→Quad w.heap.size w aO E.O→Quad w.heap.size w aP E.P→Fls w.heap.size w aL E.L→Kls w.heap.size w aK E.K→Calls Tryz.prog 30 #[zcp E.now aT E.T.length cT aO E.O.length cO aP E.P.length cP aL E.L.length cL aK E.K.length cK E.nx,.int .i64 a1] w (zbx w YN YX YT YO YP YL YK (.int .i64 f))):=him
  clear hsp him hcs hY
  go_upto_region 5 with (first
   | (go_at_call 30;obtain ⟨QT,QO,QP,QL,QK⟩:=zcr HEE.out;refine (HIM.out _ _ _ _ _ _ _ _ _ _ _ QT QO QP QL QK).mono ?_;rintro e vI ⟨aiT,ciT,aiO,ciO,aiP,ciP,aiL,ciL,aiK,ciK,rfl,ey,hbP⟩;have HEI:Hid (Eng vI v2.heap.size vI.heap.size (.slice aiT YT.length ciT) (.slice aiO YO.length ciO) (.slice aiP YP.length ciP) (.slice aiL YL.length ciL) (.slice aiK YK.length ciK) YT YO YP YL YK):=ey;have hbw:Below w.heap.size w vI:=zaa hbw hbP;have zw:=hbw.size;have zz:=hbP.size;clear p0 p1 p2 p3 p4 p5 p6;have DP:=zjl DP hbP;obtain ⟨p0,p1,p2,p3,p4,p5,p6⟩:=Lay.c7 (b:=be) DP.out;have HEE:=zjv HEE hbP))
  obtain ⟨v3,hv3⟩:∃x,x=vI.alloc (.cells #[.int .i64 YN,.slice aiT YT.length ciT,.slice aiO YO.length ciO,.slice aiP YP.length ciP,.slice aiL YL.length ciL,.slice aiK YK.length ciK,.int .i64 YX] 31):=⟨_,rfl⟩
  obtain ⟨bx,ebx⟩:∃b,b=vI.heap.size:=⟨_,rfl⟩
  rw [←hv3,←ebx]
  have ybx:vI.heap.size≤bx∧bx≤vI.heap.size:=by omega
  have ubx:bx<v3.heap.size:=by rw [hv3,ebx];simp
  have kv3:Below vI.heap.size vI v3:=by rw [hv3];exact zac _ _
  have DX:Hid (Lay v3 (bx) [.int .i64 YN,.slice aiT YT.length ciT,.slice aiO YO.length ciO,.slice aiP YP.length ciP,.slice aiL YL.length ciL,.slice aiK YK.length ciK,.int .i64 YX]):=by rw [hv3,ebx];exact zbs _ _ rfl
  clear hv3 ebx
  have hbw:Below w.heap.size w v3:=zaa hbw kv3
  have zw:=hbw.size
  have zz:=kv3.size
  clear p0 p1 p2 p3 p4 p5 p6
  have DP:=zjl DP kv3
  obtain ⟨p0,p1,p2,p3,p4,p5,p6⟩:=Lay.c7 (b:=be) DP.out
  have HEE:=zjv HEE kv3
  have HEI:=zjv HEI kv3
  obtain ⟨xx0,xx1,xx2,xx3,xx4,xx5,xx6⟩:=Lay.c7 (b:=bx) DX.out
  go_upto_region 6 with (first
   | (go_at_call 31;obtain ⟨QT,QO,QP,QL,QK⟩:=zcr HEE.out;refine (HSP.out _ _ _ _ _ _ _ _ _ _ _ QT QO QP QL QK).mono ?_;rintro e vS ⟨asT,csT,asO,csO,asP,csP,asL,csL,asK,csK,rfl,ey,hbP⟩;have HES:Hid (Eng vS v3.heap.size vS.heap.size (.slice asT YT.length csT) (.slice asO YO.length csO) (.slice asP YP.length csP) (.slice asL YL.length csL) (.slice asK YK.length csK) YT YO YP YL YK):=ey;have hbw:Below w.heap.size w vS:=zaa hbw hbP;have zw:=hbw.size;have zz:=hbP.size;clear p0 p1 p2 p3 p4 p5 p6;have DP:=zjl DP hbP;obtain ⟨p0,p1,p2,p3,p4,p5,p6⟩:=Lay.c7 (b:=be) DP.out;clear xx0 xx1 xx2 xx3 xx4 xx5 xx6;have DX:=zjl DX hbP;obtain ⟨xx0,xx1,xx2,xx3,xx4,xx5,xx6⟩:=Lay.c7 (b:=bx) DX.out;have HEE:=zjv HEE hbP;have HEI:=zjv HEI hbP))
  obtain ⟨v4,hv4⟩:∃x,x=vS.alloc (.cells #[.int .i64 YN,.slice asT YT.length csT,.slice asO YO.length csO,.slice asP YP.length csP,.slice asL YL.length csL,.slice asK YK.length csK,.int .i64 YX] 31):=⟨_,rfl⟩
  obtain ⟨bs,ebs⟩:∃b,b=vS.heap.size:=⟨_,rfl⟩
  rw [←hv4,←ebs]
  have ybs:vS.heap.size≤bs∧bs≤vS.heap.size:=by omega
  have ubs:bs<v4.heap.size:=by rw [hv4,ebs];simp
  have kv4:Below vS.heap.size vS v4:=by rw [hv4];exact zac _ _
  have DS:Hid (Lay v4 (bs) [.int .i64 YN,.slice asT YT.length csT,.slice asO YO.length csO,.slice asP YP.length csP,.slice asL YL.length csL,.slice asK YK.length csK,.int .i64 YX]):=by rw [hv4,ebs];exact zbs _ _ rfl
  clear hv4 ebs
  have hbw:Below w.heap.size w v4:=zaa hbw kv4
  have zw:=hbw.size
  have zz:=kv4.size
  clear p0 p1 p2 p3 p4 p5 p6
  have DP:=zjl DP kv4
  obtain ⟨p0,p1,p2,p3,p4,p5,p6⟩:=Lay.c7 (b:=be) DP.out
  clear xx0 xx1 xx2 xx3 xx4 xx5 xx6
  have DX:=zjl DX kv4
  obtain ⟨xx0,xx1,xx2,xx3,xx4,xx5,xx6⟩:=Lay.c7 (b:=bx) DX.out
  have HEE:=zjv HEE kv4
  have HEI:=zjv HEI kv4
  have HES:=zjv HES kv4
  obtain ⟨ss0,ss1,ss2,ss3,ss4,ss5,ss6⟩:=Lay.c7 (b:=bs) DS.out
  go_upto_region 8 with (first
   | (go_at_call 12;obtain ⟨QT,QO,QP,QL,QK⟩:=zcr HEI.out;obtain ⟨RT,RO,RP,RL,RK⟩:=zcr HES.out;refine (zhg YN YX _ _ _ _ _ _ _ _ _ _ QT QO QP QL QK RT RO RP RL RK (Nat.le_trans SMY.out.t (by decide)) (Nat.le_trans SMY.out.o (by decide)) (Nat.le_trans SMY.out.p (by decide)) (Nat.le_trans SMY.out.l (by decide)) (fun f hf=>Nat.le_trans (SMY.out.lm f hf) (by decide)) (Nat.le_trans SMY.out.k (by decide)) (fun c hc=>Nat.le_trans (SMY.out.km c hc) (by decide))).mono ?_;rintro e v5 ⟨rfl,hbE⟩;have hbw:Below w.heap.size w v5:=zaa hbw hbE;have zw:=hbw.size;have zz:=hbE.size;clear p0 p1 p2 p3 p4 p5 p6;have DP:=zjl DP hbE;obtain ⟨p0,p1,p2,p3,p4,p5,p6⟩:=Lay.c7 (b:=be) DP.out;clear xx0 xx1 xx2 xx3 xx4 xx5 xx6;have DX:=zjl DX hbE;obtain ⟨xx0,xx1,xx2,xx3,xx4,xx5,xx6⟩:=Lay.c7 (b:=bx) DX.out;clear ss0 ss1 ss2 ss3 ss4 ss5 ss6;have DS:=zjl DS hbE;obtain ⟨ss0,ss1,ss2,ss3,ss4,ss5,ss6⟩:=Lay.c7 (b:=bs) DS.out;have HEE:=zjv HEE hbE;have HEI:=zjv HEI hbE;have HES:=zjv HES hbE))
  clear DS HES HSP HIM
  clear ss0 ss1 ss2 ss3 ss4 ss5 ss6
  rcases HCS.out with ⟨e0,e1,e2,e3,e4,e5,e6,e7⟩|⟨h0,h1,e1,e2,e3,e4,e5,e6,e7⟩|⟨e0,hok,hok0,HFACT⟩
  ·clear HCS
   subst e0 e1 e2 e3 e4 e5 e6 e7
   go_wp2_with (first
    | (go_at_call 12;obtain ⟨QT,QO,QP,QL,QK⟩:=zcr HEI.out;refine (zhg (bT:=none) (bO:=none) (bP:=none) (bL:=none) (bK:=none) 0 0 _ _ _ _ _ 0 0 0 0 0 QT QO QP QL QK (Quad.nil _ _ _) (Quad.nil _ _ _) (Quad.nil _ _ _) (Fls.nil _ _ _) (Kls.nil _ _ _) (by decide) (by decide) (by decide) (by decide) (fun f hf=>by cases hf) (by decide) (fun c hc=>by cases hc)).mono ?_;rintro e v6 ⟨rfl,hbE⟩;have hbw:Below w.heap.size w v6:=zaa hbw hbE))
   go_ret
   exact ⟨rfl,hbw⟩
  ·clear HCS
   subst e1 e2 e3 e4 e5 e6 e7
   go_wp2_with (first
    | (go_at_call 12;obtain ⟨QT,QO,QP,QL,QK⟩:=zcr HEI.out;obtain ⟨RT,RO,RP,RL,RK⟩:=zcr HEE.out;refine (zhg E.now E.nx _ _ _ _ _ _ _ _ _ _ QT QO QP QL QK RT RO RP RL RK (Nat.le_trans SM0.out.t (by decide)) (Nat.le_trans SM0.out.o (by decide)) (Nat.le_trans SM0.out.p (by decide)) (Nat.le_trans SM0.out.l (by decide)) (fun f hf=>Nat.le_trans (SM0.out.lm f hf) (by decide)) (Nat.le_trans SM0.out.k (by decide)) (fun c hc=>Nat.le_trans (SM0.out.km c hc) (by decide))).mono ?_;rintro e v6 ⟨rfl,hbE⟩;have hbw:Below w.heap.size w v6:=zaa hbw hbE;have zw:=hbw.size;have zz:=hbE.size;clear p0 p1 p2 p3 p4 p5 p6;have DP:=zjl DP hbE;obtain ⟨p0,p1,p2,p3,p4,p5,p6⟩:=Lay.c7 (b:=be) DP.out;clear xx0 xx1 xx2 xx3 xx4 xx5 xx6;have DX:=zjl DX hbE;obtain ⟨xx0,xx1,xx2,xx3,xx4,xx5,xx6⟩:=Lay.c7 (b:=bx) DX.out;have HEE:=zjv HEE hbE;have HEI:=zjv HEI hbE))
   go_ret
   exact ⟨rfl,hbw⟩
  ·clear HCS
   subst e0
   obtain ⟨h2,h3,e1,e2,e3,e4,e5,e6,e7⟩:=HFACT
   have t2:=zey h2
   have tn:=zey (show zau E.now=true by have q:=ze7 hok0.lend;rw [hok0.at'] at q;exact q)
   have HNW:Hid (YN=E.now+a1):=e1
   have HUP:Hid (UpL E.O YO E.P YP):=by rw [e4,e5];exact zzj hok0
   have HTW:Hid (∀k:Int,0≤k→k≤a1→zao YN (zao (E.now+k) E.O)=YO∧zao YN (zao (E.now+k) E.P)=YP):=fun k k0 k1=>by rw [e1,e4,e5];exact zxt hok0 k0 k1
   have HSA:Hid (YX=E.nx∧YT=E.T∧YL=E.L∧YK=E.K):=⟨e2,e3,e6,e7⟩
   have HOK0:Hid (EgOk E.now E.nx E.T E.O E.P E.L E.K):=hok0
   have HOKY:Hid (zcy YN YX YT YO YP YL YK=true):=zfl hok
   have HH3:Hid (¬1000000000000000<E.now+a1):=(show ¬1000000000000000<E.now+a1 by omega)
   have HT2:Hid (zau a1=true):=h2
   clear e1 e2 e3 e4 e5 e6 e7 hok hok0 HKN
   have hw1:IntKind.i64.wrap (a1+1)=a1+1:=by rw [IntKind.wrap_i64];omega
   have hn0:¬(a1+1=0):=by omega
   go_upto_region 12 with (fail)
   go_upto_region 13 with (first
    | (go_at_call 32;refine (zvs cap0 1000003 (by decide) (by decide) (by omega) (row.mono hbw)).mono ?_;rintro e vP ⟨kp,rfl,kp0,kp1,_,hvP⟩;replace hvP:=hvP.symm;subst hvP))
   obtain ⟨k,hk⟩:∃k,kp % (a1+1)=k:=⟨_,rfl⟩
   have hk0:0≤k:=by rw [←hk];exact Int.emod_nonneg _ (by omega)
   have hk1:k≤a1:=by rw [←hk];have:=Int.emod_lt_of_pos kp (show (0:Int)<a1+1 by omega);omega
   rw [hk]
   clear hk
   obtain ⟨O2,hO2⟩:∃O,zao (E.now+k) E.O=O:=⟨_,rfl⟩
   obtain ⟨P2,hP2⟩:∃P,zao (E.now+k) E.P=P:=⟨_,rfl⟩
   have tk:zau k=true:=by unfold zau;rw [decide_eq_true (by omega),decide_eq_true (by omega)];rfl
   have tk2:zau (a1-k)=true:=by unfold zau;rw [decide_eq_true (by omega),decide_eq_true (by omega)];rfl
   have hk3:¬1000000000000000<E.now+k:=by omega
   have ok2:EgOk (E.now+k) E.nx E.T O2 P2 E.L E.K:=by rw [←hO2,←hP2];exact zl1 HOK0.out tk hk3
   have FIM1:Hid (∀(w:World) (aT aO aP aL aK:Option Addr) (cT cO cP cL cK:Nat),Quad w.heap.size w aT E.T→Quad w.heap.size w aO E.O→Quad w.heap.size w aP E.P→Fls w.heap.size w aL E.L→Kls w.heap.size w aK E.K→Calls Tryz.prog 30 #[zcp E.now aT E.T.length cT aO E.O.length cO aP E.P.length cP aL E.L.length cL aK E.K.length cK E.nx,.int .i64 k] w (zbx w (E.now+k) E.nx E.T O2 P2 E.L E.K (.int .i64 0))):=fun w aT aO aP aL aK cT cO cP cL cK q1 q2 q3 q4 q5=>by
    have r:=zjh E.now E.nx cT cO cP cL cK k q1 q2 q3 q4 q5 (Nat.le_trans SM0.out.l (by decide)) (fun f hf=>Nat.le_trans (SM0.out.lm f hf) (by decide)) (Nat.le_trans SM0.out.k (by decide)) (fun c hc=>Nat.le_trans (SM0.out.km c hc) (by decide)) (zfl HOK0.out) tk hk3
    rw [hO2,hP2] at r
    exact r
   have FIM2:Hid (∀(w:World) (aT aO aP aL aK:Option Addr) (cT cO cP cL cK:Nat),Quad w.heap.size w aT E.T→Quad w.heap.size w aO O2→Quad w.heap.size w aP P2→Fls w.heap.size w aL E.L→Kls w.heap.size w aK E.K→Calls Tryz.prog 30 #[zcp (E.now+k) aT E.T.length cT aO O2.length cO aP P2.length cP aL E.L.length cL aK E.K.length cK E.nx,.int .i64 (a1-k)] w (zbx w YN YX YT YO YP YL YK (.int .i64 0))):=fun w aT aO aP aL aK cT cO cP cL cK q1 q2 q3 q4 q5=>by
    have r:=zjh (E.now+k) E.nx cT cO cP cL cK (a1-k) q1 q2 q3 q4 q5 (Nat.le_trans SM0.out.l (by decide)) (fun f hf=>Nat.le_trans (SM0.out.lm f hf) (by decide)) (Nat.le_trans SM0.out.k (by decide)) (fun c hc=>Nat.le_trans (SM0.out.km c hc) (by decide)) (zfl ok2) tk2 (by have:=HH3.out;omega)
    rw [show E.now+k+(a1-k)=YN by rw [HNW.out];omega,←hO2,←hP2,(HTW.out k hk0 hk1).1,(HTW.out k hk0 hk1).2,←HSA.out.1,←HSA.out.2.1,←HSA.out.2.2.1,←HSA.out.2.2.2] at r
    rw [hO2,hP2,HSA.out.1,HSA.out.2.1,HSA.out.2.2.1,HSA.out.2.2.2] at r
    rw [HSA.out.1,HSA.out.2.1,HSA.out.2.2.1,HSA.out.2.2.2]
    exact r
   clear hO2 hP2 tk tk2 hk3 ok2
   have hwk:IntKind.i64.wrap (a1-k)=a1-k:=by rw [IntKind.wrap_i64];omega
   clear t2 tn
   go_upto_region 14 with (first
    | (go_at_call 30;obtain ⟨QT,QO,QP,QL,QK⟩:=zcr HEE.out;refine (FIM1.out _ _ _ _ _ _ _ _ _ _ _ QT QO QP QL QK).mono ?_;rintro e v7 ⟨ayT,cyT,ayO,cyO,ayP,cyP,ayL,cyL,ayK,cyK,rfl,ey,hbP⟩;have HEY:Hid (Eng v7 v5.heap.size v7.heap.size (.slice ayT E.T.length cyT) (.slice ayO O2.length cyO) (.slice ayP P2.length cyP) (.slice ayL E.L.length cyL) (.slice ayK E.K.length cyK) E.T O2 P2 E.L E.K):=ey;have hbw:Below w.heap.size w v7:=zaa hbw hbP;have zw:=hbw.size;have zz:=hbP.size;clear p0 p1 p2 p3 p4 p5 p6;have DP:=zjl DP hbP;obtain ⟨p0,p1,p2,p3,p4,p5,p6⟩:=Lay.c7 (b:=be) DP.out;clear xx0 xx1 xx2 xx3 xx4 xx5 xx6;have DX:=zjl DX hbP;obtain ⟨xx0,xx1,xx2,xx3,xx4,xx5,xx6⟩:=Lay.c7 (b:=bx) DX.out;have HEE:=zjv HEE hbP;have HEI:=zjv HEI hbP))
   obtain ⟨v8,hv8⟩:∃x,x=v7.alloc (.cells #[.int .i64 (E.now+k),.slice ayT E.T.length cyT,.slice ayO O2.length cyO,.slice ayP P2.length cyP,.slice ayL E.L.length cyL,.slice ayK E.K.length cyK,.int .i64 E.nx] 31):=⟨_,rfl⟩
   obtain ⟨by0,eby0⟩:∃b,b=v7.heap.size:=⟨_,rfl⟩
   rw [←hv8,←eby0]
   have yby0:v7.heap.size≤by0∧by0≤v7.heap.size:=by omega
   have uby0:by0<v8.heap.size:=by rw [hv8,eby0];simp
   have kv8:Below v7.heap.size v7 v8:=by rw [hv8];exact zac _ _
   have DY:Hid (Lay v8 (by0) [.int .i64 (E.now+k),.slice ayT E.T.length cyT,.slice ayO O2.length cyO,.slice ayP P2.length cyP,.slice ayL E.L.length cyL,.slice ayK E.K.length cyK,.int .i64 E.nx]):=by rw [hv8,eby0];exact zbs _ _ rfl
   clear hv8 eby0
   have hbw:Below w.heap.size w v8:=zaa hbw kv8
   have zw:=hbw.size
   have zz:=kv8.size
   clear p0 p1 p2 p3 p4 p5 p6
   have DP:=zjl DP kv8
   obtain ⟨p0,p1,p2,p3,p4,p5,p6⟩:=Lay.c7 (b:=be) DP.out
   clear xx0 xx1 xx2 xx3 xx4 xx5 xx6
   have DX:=zjl DX kv8
   obtain ⟨xx0,xx1,xx2,xx3,xx4,xx5,xx6⟩:=Lay.c7 (b:=bx) DX.out
   have HEE:=zjv HEE kv8
   have HEI:=zjv HEI kv8
   have HEY:=zjv HEY kv8
   obtain ⟨yy0,yy1,yy2,yy3,yy4,yy5,yy6⟩:=Lay.c7 (b:=by0) DY.out
   go_upto_region 15 with (first
    | (go_at_call 30;obtain ⟨QT,QO,QP,QL,QK⟩:=zcr HEY.out;refine (FIM2.out _ _ _ _ _ _ _ _ _ _ _ QT QO QP QL QK).mono ?_;rintro e v9 ⟨azT,czT,azO,czO,azP,czP,azL,czL,azK,czK,rfl,ey,hbP⟩;have HEZ:Hid (Eng v9 v8.heap.size v9.heap.size (.slice azT YT.length czT) (.slice azO YO.length czO) (.slice azP YP.length czP) (.slice azL YL.length czL) (.slice azK YK.length czK) YT YO YP YL YK):=ey;have hbw:Below w.heap.size w v9:=zaa hbw hbP;have zw:=hbw.size;have zz:=hbP.size;clear p0 p1 p2 p3 p4 p5 p6;have DP:=zjl DP hbP;obtain ⟨p0,p1,p2,p3,p4,p5,p6⟩:=Lay.c7 (b:=be) DP.out;clear xx0 xx1 xx2 xx3 xx4 xx5 xx6;have DX:=zjl DX hbP;obtain ⟨xx0,xx1,xx2,xx3,xx4,xx5,xx6⟩:=Lay.c7 (b:=bx) DX.out;clear yy0 yy1 yy2 yy3 yy4 yy5 yy6;have DY:=zjl DY hbP;obtain ⟨yy0,yy1,yy2,yy3,yy4,yy5,yy6⟩:=Lay.c7 (b:=by0) DY.out;have HEE:=zjv HEE hbP;have HEI:=zjv HEI hbP;have HEY:=zjv HEY hbP))
   obtain ⟨v10,hv10⟩:∃x,x=v9.alloc (.cells #[.int .i64 YN,.slice azT YT.length czT,.slice azO YO.length czO,.slice azP YP.length czP,.slice azL YL.length czL,.slice azK YK.length czK,.int .i64 YX] 31):=⟨_,rfl⟩
   obtain ⟨bz0,ebz0⟩:∃b,b=v9.heap.size:=⟨_,rfl⟩
   rw [←hv10,←ebz0]
   have ybz0:v9.heap.size≤bz0∧bz0≤v9.heap.size:=by omega
   have ubz0:bz0<v10.heap.size:=by rw [hv10,ebz0];simp
   have kv10:Below v9.heap.size v9 v10:=by rw [hv10];exact zac _ _
   have DZ:Hid (Lay v10 (bz0) [.int .i64 YN,.slice azT YT.length czT,.slice azO YO.length czO,.slice azP YP.length czP,.slice azL YL.length czL,.slice azK YK.length czK,.int .i64 YX]):=by rw [hv10,ebz0];exact zbs _ _ rfl
   clear hv10 ebz0
   have hbw:Below w.heap.size w v10:=zaa hbw kv10
   have zw:=hbw.size
   have zz:=kv10.size
   clear p0 p1 p2 p3 p4 p5 p6
   have DP:=zjl DP kv10
   obtain ⟨p0,p1,p2,p3,p4,p5,p6⟩:=Lay.c7 (b:=be) DP.out
   clear xx0 xx1 xx2 xx3 xx4 xx5 xx6
   have DX:=zjl DX kv10
   obtain ⟨xx0,xx1,xx2,xx3,xx4,xx5,xx6⟩:=Lay.c7 (b:=bx) DX.out
   clear yy0 yy1 yy2 yy3 yy4 yy5 yy6
   have DY:=zjl DY kv10
   obtain ⟨yy0,yy1,yy2,yy3,yy4,yy5,yy6⟩:=Lay.c7 (b:=by0) DY.out
   have HEE:=zjv HEE kv10
   have HEI:=zjv HEI kv10
   have HEY:=zjv HEY kv10
   have HEZ:=zjv HEZ kv10
   obtain ⟨zz0,zz1,zz2,zz3,zz4,zz5,zz6⟩:=Lay.c7 (b:=bz0) DZ.out
   obtain ⟨q1,QO0,QP0,q4,q5⟩:=zcr HEE.out
   obtain ⟨q6,RO0,RP0,q9,q10⟩:=zcr HEI.out
   have HQO:Hid (Quad v10.heap.size v10 E.aO E.O):=QO0
   have HQP:Hid (Quad v10.heap.size v10 E.aP E.P):=QP0
   have HRO:Hid (Quad v10.heap.size v10 aiO YO):=RO0
   have HRP:Hid (Quad v10.heap.size v10 aiP YP):=RP0
   have ho1000:=SM0.out.o
   have HLY:Hid (YO.length=E.O.length∧YP.length=E.P.length∧E.P.length=E.O.length):=⟨HUP.out.1,HUP.out.2.1,HUP.out.2.2.1⟩
   have hwn:IntKind.i64.wrap (E.now+a1)=YN:=by have:=HNW.out;have:=HH3.out;have t2:=zey HT2.out;have tn:=zey (show zau E.now=true by have q:=ze7 HOK0.out.lend;rw [HOK0.out.at'] at q;exact q);rw [IntKind.wrap_i64];omega
   clear q1 QO0 QP0 q4 q5 q6 RO0 RP0 q9 q10 HTW HSA HOK0 FIM1 FIM2 HEY yy0 yy1 yy2 yy3 yy4 yy5 yy6
   go_wp2
   go_loopw [14] (fun i wr=>∃j:Nat,i=.int .i64 j∧j≤E.O.length∧Hid (Below v10.heap.size v10 wr)) (fun i _=>E.O.length-(intOf i).toNat)
   case atStart=>exact ⟨0,rfl,by omega,Below.refl _ _⟩
   case round =>
    obtain ⟨j,rfl,hj,HB⟩:=hrel
    have D1:=zjl DP HB.out
    have D2:=zjl DX HB.out
    have D3:=zjl DZ HB.out
    clear p0 p1 p2 p3 p4 p5 p6 xx0 xx1 xx2 xx3 xx4 xx5 xx6 zz0 zz1 zz2 zz3 zz4 zz5 zz6
    obtain ⟨p0,p1,p2,p3,p4,p5,p6⟩:=D1.out.c7
    by_cases hlt:j<E.O.length
    ·have hlt':(j:Int)<(E.O.length:Int):=by omega
     have hj0:(0:Int)≤(j:Int):=by omega
     have l1':j<YO.length:=by have:=HLY.out;omega
     have l2':j<E.P.length:=by have:=HLY.out;omega
     have l3':j<YP.length:=by have:=HLY.out;omega
     have l1i:(j:Int)<(YO.length:Int):=by omega
     have l2i:(j:Int)<(E.P.length:Int):=by omega
     have l3i:(j:Int)<(YP.length:Int):=by omega
     obtain ⟨u1,u2⟩:=HUP.out.2.2.2 j hlt l1' l2' l3'
     obtain ⟨g1,o1,k1,hg1,_,_,c1,_⟩:=HQO.out j hlt
     obtain ⟨g2,o2,k2,hg2,_,_,c2,_⟩:=HQP.out j l2'
     obtain ⟨g3,o3,k3,hg3,_,_,c3,_⟩:=HRO.out j l1'
     obtain ⟨g4,o4,k4,hg4,_,_,c4,_⟩:=HRP.out j l3'
     obtain ⟨l1,e1⟩:∃l,E.O[j].2.2.1=l:=⟨_,rfl⟩
     obtain ⟨l2,e2⟩:∃l,E.P[j].2.2.1=l:=⟨_,rfl⟩
     obtain ⟨l3,e3⟩:∃l,YO[j].2.2.1=l:=⟨_,rfl⟩
     obtain ⟨l4,e4⟩:∃l,YP[j].2.2.1=l:=⟨_,rfl⟩
     rw [e1] at u1 c1
     rw [e2] at u2 c2
     rw [e3] at u1 c3
     rw [e4] at u2 c4
     have n1:¬l3<l1:=by omega
     have n2:¬l4<l2:=by omega
     clear e1 e2 e3 e4 u1 u2
     go_upto_region 18 with (fail)
     have hr:Below wr.heap.size wr wr.drew:=(Below.refl _ _).drew
     have lw1:g1<wr.heap.size:=by have:=HB.out.size;omega
     have lw2:g2<wr.heap.size:=by have:=HB.out.size;omega
     have lw3:g3<wr.heap.size:=by have:=HB.out.size;omega
     have lw4:g4<wr.heap.size:=by have:=HB.out.size;omega
     have HS:Hid (∀w',Below wr.heap.size wr w'→w'.cell? ⟨be,2,none⟩=some (.slice (some ⟨g1,o1,none⟩) E.O.length E.cO)∧w'.cell? ⟨be,3,none⟩=some (.slice (some ⟨g2,o2,none⟩) E.P.length E.cP)∧w'.cell? ⟨bx,2,none⟩=some (.slice (some ⟨g3,o3,none⟩) YO.length ciO)∧w'.cell? ⟨bx,3,none⟩=some (.slice (some ⟨g4,o4,none⟩) YP.length ciP)∧w'.cell? ⟨g1,o1+j*4+2,none⟩=some (.int .i64 l1)∧w'.cell? ⟨g2,o2+j*4+2,none⟩=some (.int .i64 l2)∧w'.cell? ⟨g3,o3+j*4+2,none⟩=some (.int .i64 l3)∧w'.cell? ⟨g4,o4+j*4+2,none⟩=some (.int .i64 l4)):=fun w' h=>⟨(D1.out.next h).cell 2 _ (by rw [←k1];rfl),(D1.out.next h).cell 3 _ (by rw [←k2];rfl),(D2.out.next h).cell 2 _ (by rw [←k3];rfl),(D2.out.next h).cell 3 _ (by rw [←k4];rfl),(h.cell (by exact lw1)).trans ((HB.out.cell (by exact hg1)).trans c1),(h.cell (by exact lw2)).trans ((HB.out.cell (by exact hg2)).trans c2),(h.cell (by exact lw3)).trans ((HB.out.cell (by exact hg3)).trans c3),(h.cell (by exact lw4)).trans ((HB.out.cell (by exact hg4)).trans c4)⟩
     clear c1 c2 c3 c4 p0 p1 p2 p3 p4 p5 p6
     refine zce HS hr fun hS=>?_
     refine zab 0 rfl ?_
     refine zab 1 rfl ?_
     refine zab 2 rfl ?_
     refine zab 3 rfl ?_
     refine zab 4 rfl ?_
     refine zab 5 rfl ?_
     refine zab 6 rfl ?_
     refine zab 7 rfl ?_
     refine zab 8 rfl ?_
     refine zab 9 rfl ?_
     refine zab 10 rfl ?_
     refine zab 11 rfl ?_
     refine zab 12 rfl ?_
     refine zab 13 rfl ?_
     refine zab 14 rfl ?_
     refine zab 15 rfl ?_
     refine zab 16 rfl ?_
     refine zab 17 rfl ?_
     refine zab 18 rfl ?_
     refine zab 19 rfl ?_
     refine zab 20 rfl ?_
     refine zab 21 rfl ?_
     refine zab 22 rfl ?_
     refine zab 23 rfl ?_
     refine zab 24 rfl ?_
     refine zab 25 rfl ?_
     refine zab 26 rfl ?_
     refine zab 27 rfl ?_
     refine zab 28 rfl ?_
     refine zab 29 rfl ?_
     refine zab 30 rfl ?_
     refine zab 31 rfl ?_
     refine wpAnyH_done (by kernel_rfl) ?_ _
     go_wp2
     go_roundw
     case rel=>exact ⟨j+1,by go_num,by omega,zaa HB.out hr⟩
     case measure=>simp [intOf];omega
    ·have hmd:¬(j:Int)<(E.O.length:Int):=by omega
     obtain ⟨r0,r1,r2,r3,r4,r5,r6⟩:=D2.out.c7
     obtain ⟨s0,s1,s2,s3,s4,s5,s6⟩:=D3.out.c7
     go_wp2_with (first
      | (go_at_call 12;obtain ⟨QT,QO,QP,QL,QK⟩:=zcr HEZ.out;obtain ⟨RT,RO,RP,RL,RK⟩:=zcr HEI.out;refine (zhg YN YX _ _ _ _ _ _ _ _ _ _ (QT.here HB.out) (QO.here HB.out) (QP.here HB.out) (QL.here HB.out) (QK.here HB.out) (RT.here HB.out) (RO.here HB.out) (RP.here HB.out) (RL.here HB.out) (RK.here HB.out) (Nat.le_trans SMY.out.t (by decide)) (Nat.le_trans SMY.out.o (by decide)) (Nat.le_trans SMY.out.p (by decide)) (Nat.le_trans SMY.out.l (by decide)) (fun f hf=>Nat.le_trans (SMY.out.lm f hf) (by decide)) (Nat.le_trans SMY.out.k (by decide)) (fun c hc=>Nat.le_trans (SMY.out.km c hc) (by decide))).mono ?_;rintro e vE ⟨rfl,hbE⟩;clear p0 p1 p2 p3 p4 p5 p6 r0 r1 r2 r3 r4 r5 r6 s0 s1 s2 s3 s4 s5 s6;obtain ⟨p0,p1,p2,p3,p4,p5,p6⟩:=(zjl D1 hbE).out.c7;obtain ⟨r0,r1,r2,r3,r4,r5,r6⟩:=(zjl D2 hbE).out.c7)
      | (go_at_call 16;obtain ⟨QT,QO,QP,QL,QK⟩:=zcr HEI.out;have hb2:=zaa HB.out hbE;refine (zc1 _ _ _ _ _ HOKY.out (QT.here hb2) (QO.here hb2) (QP.here hb2) (QL.here hb2) (QK.here hb2) (Nat.le_trans SMY.out.l (by decide)) (fun f hf=>Nat.le_trans (SMY.out.lm f hf) (by decide)) (Nat.le_trans SMY.out.k (by decide)) (fun c hc=>Nat.le_trans (SMY.out.km c hc) (by decide))).mono ?_;rintro e vZ ⟨rfl,hbZ⟩))
     go_ret
     exact ⟨rfl,zaa (zaa (zaa hbw HB.out) hbE) hbZ⟩
 ·have hbig:(4096:Int)<(len0:Int):=by omega
  go_enter Tryz.func7,Tryz.ntmps7
  go_wp2
  go_ret
  exact ⟨rfl,Below.refl _ _⟩
set_option maxRecDepth 100000 in
theorem lifted (os:Os) (started:os.Started) (H:Type) (enc:TypeId × Value→H) :
 ReturnsInHanded {} Tryz.checked os 7 .any (Rows.fnForwardedSpec.pre6 enc Tryz.prog Tryz.f7 Rows.fnForwardedRow.domain false) (Rows.fnForwardedSpec.post enc Tryz.prog Tryz.f7 false true false false):=by
 refine returnsInHanded_of_change (C:=Tryz.checked) own started (by kernel_rfl) Tryz.func7
  (ChangeSpec.witness6 (enc:=enc) (C:=Tryz.checked) false ⟨#[],#[.slice none 0 0],[]⟩ 8 (by kernel_rfl) (by kernel_rfl) (by kernel_rfl) (by kernel_rfl)) ?_
 intro W base args ds gs before hval0 hW hcnd _
 have hval:∀(j:Nat) t v,Tryz.f7.params[j]?=some t→args[j]?=some v→Value.okWide Tryz.prog W .any base t v:=hval0
 have hW':=hW
 obtain ⟨p,q,hA0,hV,rfl,hfz,hnd⟩:=hW
 have hA:DataW.TrodAll enc Tryz.prog W 0 (fun _=>true) true Tryz.f7.params.toList args.toList ds p:=hA0
 rw [Tryz.params7] at hA hval
 obtain ⟨v0,vs0,d0,ds0,p0,q0,hargs,rfl,rfl,h0,r0⟩:=trodAll_cons hA
 obtain ⟨rfl,rfl,rfl⟩:=trodAll_nil r0
 obtain rfl:args=#[v0]:=by cases args;simp_all
 obtain ⟨rfl,rfl⟩:=trodVars_none hV
 obtain ⟨a0,len0,cap0,rfl⟩:=okWide_slice Tryz.underlying22 (hval 0 22 v0 rfl rfl)
 have k0:=h0
 have lt0:∀x ∈ p0,x.block<W.heap.size:=by obtain ⟨m,hm⟩:=k0;exact DataW.trod_lt m _ _ _ hm
 obtain ⟨z0,w0⟩:∃zs,z2c .u8 W a0 len0 cap0 zs:=by
  obtain ⟨fuel,hf⟩:=h0
  rcases open_ints Tryz.underlying22 Tryz.underlying5 (by kernel_rfl) hf with ⟨hcs,_⟩|⟨x,l,c,zs,hcs,_,hl,hm,hz,_,hcell,hwz⟩
  ·simp [Value.cells] at hcs
   obtain ⟨rfl,rfl,rfl⟩:=hcs
   exact ⟨[],.inl ⟨rfl,rfl,rfl,rfl⟩⟩
  ·simp [Value.cells] at hcs
   obtain ⟨rfl,rfl,rfl⟩:=hcs
   exact ⟨zs,.inr ⟨_,rfl,hl,hm,by simpa using hz,hcell,hwz⟩⟩
 clear hA0 hval0
 refine (walk a0 len0 cap0 z0 W w0).mono fun e W' ⟨he,bel⟩=>?_
 subst he
 exact ⟨_,rfl,_,_,_,[],_,[],hW',trodAll_mk1 (shut_bool Tryz.underlying4 _),(trodAll_cons_mk (Below.trod z2b (by kernel_rfl) (of_decide_eq_true (by kernel_rfl)) k0 bel lt0) trodAll_mk0),rfl,bel.frame _,fun h=>by cases h⟩
theorem over:Rows.fnForwardedRow.holds Tryz.pinned (OpenSpec.ofChange Rows.fnForwardedSpec) :=
 OpenClaim.holds_of_wide 7 Tryz.f7 rfl rfl rfl rfl rfl rfl rfl ⟨rfl,rfl,rfl,rfl,rfl⟩ rfl rfl rfl rfl rfl (by kernel_rfl) Tryz.func7 (by kernel_rfl)
  (of_decide_eq_true (by kernel_rfl)) (by unfold Func.isWrapper;first|(rw [if_pos (by decide +kernel)];kernel_rfl)|(rw [if_neg (by decide +kernel)];exact ⟨rfl,rfl⟩))
  (fun os started H enc _=>lifted os started H enc)
theorem proved:Rows.FnForwardedSaid:=over
#print axioms proved
end Go.Proofs.YthiojkjcmhojoaaGreat.fnForwarded
namespace Go.Proofs.YthiojkjcmhojoaaGreat
theorem fnForwarded_holds:Rows.FnForwardedSaid:=fnForwarded.proved
#print axioms fnForwarded_holds
end Go.Proofs.YthiojkjcmhojoaaGreat
