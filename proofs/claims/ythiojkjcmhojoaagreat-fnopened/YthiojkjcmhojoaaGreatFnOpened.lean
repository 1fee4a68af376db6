/- Proved: whatever the bytes, the law FnOpened returns true (at the Engines and numbers that the model draws of them impl's Open and Close answer as spec's do; what Close leaves is right and has one connection less; a refused Engine stays as it was; else an Open makes a right Engine with one connection more, and to close it again gives the Engine that there was), and the bytes read as before; no condition. -/
import Derived.Test.YthiojkjcmhojoaaGreatGrpBNX1
namespace Go.Proofs.YthiojkjcmhojoaaGreat.fnOpened
set_option maxHeartbeats 16000000
open Go.ChangeShapes Go.WideShapes Go.ChangeAt Go.RowKit
open Go.ChangeMaps (open_string shut_string)
set_option linter.unusedVariables false
theorem own:ownKnob Tryz.prog.godebug=none:=by kernel_rfl
theorem laidOut:laidOutB Tryz.prog=true:=by kernel_rfl
def IsRow (k:IntKind) (w:World) (a:Option Addr) (len cap:Nat) (zs:List Int):Prop :=
 (a=none∧len=0∧cap=0∧zs=[]) ∨
 ∃x,a=some x∧len≤cap∧cap≤maxLen∧zs.length=cap∧(∀i,i<zs.length→w.cell? (x.add i)=some (.int k (zs.getD i 0)))∧∀n ∈ zs,(Lit.int k n).wf=true
set_option linter.unusedSimpArgs false
set_option linter.unusedVariables false
set_option maxRecDepth 100000
theorem row_of {w:World} {a:Option Addr} {len cap:Nat} {zs:List Int} (h:IsRow .u8 w a len cap zs):Row w.heap.size a len w:=by
 intro i hi
 rcases h with ⟨rfl,rfl,rfl,rfl⟩|⟨x,rfl,hl,hm,hz,hcell,hwz⟩
 ·omega
 ·obtain ⟨b,off,spot⟩:=x
  have hspot:spot=none:=by simpa [Addr.add] using World.cell?_spot (hcell 0 (by omega))
  subst hspot
  have hc:=hcell i (by omega)
  have hc':w.cell? ⟨b,off+i,none⟩=some (.int .u8 (zs.getD i 0)):=by
   by_cases h0:i=0
   ·subst h0;simpa [Addr.add] using hc
   ·simpa [Addr.add,h0] using hc
  have hlt:i<zs.length:=by omega
  have hm:zs.getD i 0 ∈ zs:=by simp [List.getD,List.getElem?_eq_getElem hlt]
  obtain ⟨z0,z1⟩:=bounds_u8 (hwz _ hm)
  exact ⟨b,off,zs.getD i 0,rfl,World.block_lt_of_cell? w _ hc',hc',z0,z1⟩
theorem walk (a0:Option Addr) (len0 cap0:Nat) (z0:List Int) (w:World) (w0:IsRow .u8 w a0 len0 cap0 z0) :
 Calls Tryz.prog 3 #[.slice a0 len0 cap0] w fun e w'=>e=.returned (.bool true)∧Below w.heap.size w w':=by
 have row:=row_of w0
 by_cases hs:len0≤4096
 ·go_enter Tryz.func3,Tryz.ntmps3
  go_upto_region 4 with (first
   | (go_at_call 9;refine (drawOpen_any cap0 hs row (Nat.le_refl _)).mono ?_;rintro e v1 ⟨E,a1,a2,a3,a4,rfl,ee,sm,hkn,hbw⟩;have HEE:Hid (Eng v1 w.heap.size v1.heap.size (.slice E.aT E.T.length E.cT) (.slice E.aO E.O.length E.cO) (.slice E.aP E.P.length E.cP) (.slice E.aL E.L.length E.cL) (.slice E.aK E.K.length E.cK) E.T E.O E.P E.L E.K):=ee;have SM0:Hid (Small E.T E.O E.P E.L E.K):=sm;clear ee sm hkn;have zw:=hbw.size)
   | go_in)
  obtain ⟨v2,hv2⟩:∃x,x=v1.alloc (.cells #[.int .i64 E.now,.slice E.aT E.T.length E.cT,.slice E.aO E.O.length E.cO,.slice E.aP E.P.length E.cP,.slice E.aL E.L.length E.cL,.slice E.aK E.K.length E.cK,.int .i64 E.nx] 31):=⟨_,rfl⟩
  obtain ⟨be,ebe⟩:∃b,b=v1.heap.size:=⟨_,rfl⟩
  rw [←hv2,←ebe]
  have ybe:v1.heap.size≤be∧be≤v1.heap.size:=by omega
  have ube:be<v2.heap.size:=by rw [hv2,ebe];simp
  have kv2:Below v1.heap.size v1 v2:=by rw [hv2];exact new_below _ _
  have DP:Hid (Lay v2 (be) [.int .i64 E.now,.slice E.aT E.T.length E.cT,.slice E.aO E.O.length E.cO,.slice E.aP E.P.length E.cP,.slice E.aL E.L.length E.cL,.slice E.aK E.K.length E.cK,.int .i64 E.nx]):=by rw [hv2,ebe];exact lay_new _ _ rfl
  clear hv2 ebe
  have hbw:Below w.heap.size w v2:=below_two hbw kv2
  have zw:=hbw.size
  have zz:=kv2.size
  have HEE:=engN HEE kv2
  obtain ⟨p0,p1,p2,p3,p4,p5,p6⟩:=Lay.c7 (b:=be) DP.out
  obtain ⟨YN,YX,YT,YO,YP,YL,YK,f,hY,hcs,hsp,him⟩:=opens14L E.now E.nx E.T E.O E.P E.L E.K a1 a2 a3 a4 (Nat.le_trans SM0.out.t (by decide)) (Nat.le_trans SM0.out.l (by decide)) (fun f hf=>Nat.le_trans (SM0.out.lm f hf) (by decide)) (Nat.le_trans SM0.out.k (by decide)) (fun c hc=>Nat.le_trans (SM0.out.km c hc) (by decide))
  have SMY:Hid (Small YT YO YP YL YK):=hY
  have HCS:Hid ((f=1∧YN=0∧YX=0∧YT=[]∧YO=[]∧YP=[]∧YL=[]∧YK=[])∨(f≠0∧f≠1∧YN=E.now∧YX=E.nx∧YT=E.T∧YO=E.O∧YP=E.P∧YL=E.L∧YK=E.K)∨(f=0∧EgOk YN YX YT YO YP YL YK∧EgOk E.now E.nx E.T E.O E.P E.L E.K∧(YN=E.now∧YX=E.nx∧YT=E.T∧YO=E.O∧YP=E.P∧OpnF a1 E.L E.K YL YK))):=hcs
  have HSP:Hid (∀(w:World) (aT aO aP aL aK:Option Addr) (cT cO cP cL cK:Nat),Quad w.heap.size w aT E.T→Quad w.heap.size w aO E.O→Quad w.heap.size w aP E.P→Fls w.heap.size w aL E.L→Kls w.heap.size w aK E.K→Calls Tryz.prog 11 #[engV E.now aT E.T.length cT aO E.O.length cO aP E.P.length cP aL E.L.length cL aK E.K.length cK E.nx,.int .i64 a1,.int .i64 a2,.int .i64 a3,.int .i64 a4] w (EgPost w YN YX YT YO YP YL YK (.int .i64 f))):=hsp
  have HIM:Hid (∀(w:World) (aT aO aP aL aK:Option Addr) (cT cO cP cL cK:Nat),Quad w.heap.size w aT E.T→Quad w.heap.size w aO E.O→Quad w.heap.size w aP E.P→Fls w.heap.size w aL E.L→Kls w.heap.size w aK E.K→Calls Tryz.prog 10 #[engV E.now aT E.T.length cT aO E.O.length cO aP E.P.length cP aL E.L.length cL aK E.K.length cK E.nx,.int .i64 a1,.int .i64 a2,.int .i64 a3,.int .i64 a4] w (EgPost w YN YX YT YO YP YL YK (.int .i64 f))):=him
  clear hsp him hcs hY
  go_upto_region 5 with (first
   | (go_at_call 10;obtain ⟨QT,QO,QP,QL,QK⟩:=eng_read HEE.out;refine (HIM.out _ _ _ _ _ _ _ _ _ _ _ QT QO QP QL QK).mono ?_;rintro e vI ⟨aiT,ciT,aiO,ciO,aiP,ciP,aiL,ciL,aiK,ciK,rfl,ey,hbP⟩;have HEI:Hid (Eng vI v2.heap.size vI.heap.size (.slice aiT YT.length ciT) (.slice aiO YO.length ciO) (.slice aiP YP.length ciP) (.slice aiL YL.length ciL) (.slice aiK YK.length ciK) YT YO YP YL YK):=ey;have hbw:Below w.heap.size w vI:=below_two hbw hbP;have zw:=hbw.size;have zz:=hbP.size;clear p0 p1 p2 p3 p4 p5 p6;have DP:=layN DP hbP;obtain ⟨p0,p1,p2,p3,p4,p5,p6⟩:=Lay.c7 (b:=be) DP.out;have HEE:=engN HEE hbP))
  obtain ⟨v3,hv3⟩:∃x,x=vI.alloc (.cells #[.int .i64 YN,.slice aiT YT.length ciT,.slice aiO YO.length ciO,.slice aiP YP.length ciP,.slice aiL YL.length ciL,.slice aiK YK.length ciK,.int .i64 YX] 31):=⟨_,rfl⟩
  obtain ⟨bx,ebx⟩:∃b,b=vI.heap.size:=⟨_,rfl⟩
  rw [←hv3,←ebx]
  have ybx:vI.heap.size≤bx∧bx≤vI.heap.size:=by omega
  have ubx:bx<v3.heap.size:=by rw [hv3,ebx];simp
  have kv3:Below vI.heap.size vI v3:=by rw [hv3];exact new_below _ _
  have DX:Hid (Lay v3 (bx) [.int .i64 YN,.slice aiT YT.length ciT,.slice aiO YO.length ciO,.slice aiP YP.length ciP,.slice aiL YL.length ciL,.slice aiK YK.length ciK,.int .i64 YX]):=by rw [hv3,ebx];exact lay_new _ _ rfl
  clear hv3 ebx
  have hbw:Below w.heap.size w v3:=below_two hbw kv3
  have zw:=hbw.size
  have zz:=kv3.size
  clear p0 p1 p2 p3 p4 p5 p6
  have DP:=layN DP kv3
  obtain ⟨p0,p1,p2,p3,p4,p5,p6⟩:=Lay.c7 (b:=be) DP.out
  have HEE:=engN HEE kv3
  have HEI:=engN HEI kv3
  obtain ⟨xx0,xx1,xx2,xx3,xx4,xx5,xx6⟩:=Lay.c7 (b:=bx) DX.out
  go_upto_region 6 with (first
   | (go_at_call 11;obtain ⟨QT,QO,QP,QL,QK⟩:=eng_read HEE.out;refine (HSP.out _ _ _ _ _ _ _ _ _ _ _ QT QO QP QL QK).mono ?_;rintro e vS ⟨asT,csT,asO,csO,asP,csP,asL,csL,asK,csK,rfl,ey,hbP⟩;have HES:Hid (Eng vS v3.heap.size vS.heap.size (.slice asT YT.length csT) (.slice asO YO.length csO) (.slice asP YP.length csP) (.slice asL YL.length csL) (.slice asK YK.length csK) YT YO YP YL YK):=ey;have hbw:Below w.heap.size w vS:=below_two hbw hbP;have zw:=hbw.size;have zz:=hbP.size;clear p0 p1 p2 p3 p4 p5 p6;have DP:=layN DP hbP;obtain ⟨p0,p1,p2,p3,p4,p5,p6⟩:=Lay.c7 (b:=be) DP.out;clear xx0 xx1 xx2 xx3 xx4 xx5 xx6;have DX:=layN DX hbP;obtain ⟨xx0,xx1,xx2,xx3,xx4,xx5,xx6⟩:=Lay.c7 (b:=bx) DX.out;have HEE:=engN HEE hbP;have HEI:=engN HEI hbP))
  obtain ⟨v4,hv4⟩:∃x,x=vS.alloc (.cells #[.int .i64 YN,.slice asT YT.length csT,.slice asO YO.length csO,.slice asP YP.length csP,.slice asL YL.length csL,.slice asK YK.length csK,.int .i64 YX] 31):=⟨_,rfl⟩
  obtain ⟨bs,ebs⟩:∃b,b=vS.heap.size:=⟨_,rfl⟩
  rw [←hv4,←ebs]
  have ybs:vS.heap.size≤bs∧bs≤vS.heap.size:=by omega
  have ubs:bs<v4.heap.size:=by rw [hv4,ebs];simp
  have kv4:Below vS.heap.size vS v4:=by rw [hv4];exact new_below _ _
  have DS:Hid (Lay v4 (bs) [.int .i64 YN,.slice asT YT.length csT,.slice asO YO.length csO,.slice asP YP.length csP,.slice asL YL.length csL,.slice asK YK.length csK,.int .i64 YX]):=by rw [hv4,ebs];exact lay_new _ _ rfl
  clear hv4 ebs
  have hbw:Below w.heap.size w v4:=below_two hbw kv4
  have zw:=hbw.size
  have zz:=kv4.size
  clear p0 p1 p2 p3 p4 p5 p6
  have DP:=layN DP kv4
  obtain ⟨p0,p1,p2,p3,p4,p5,p6⟩:=Lay.c7 (b:=be) DP.out
  clear xx0 xx1 xx2 xx3 xx4 xx5 xx6
  have DX:=layN DX kv4
  obtain ⟨xx0,xx1,xx2,xx3,xx4,xx5,xx6⟩:=Lay.c7 (b:=bx) DX.out
  have HEE:=engN HEE kv4
  have HEI:=engN HEI kv4
  have HES:=engN HES kv4
  obtain ⟨ss0,ss1,ss2,ss3,ss4,ss5,ss6⟩:=Lay.c7 (b:=bs) DS.out
  go_upto_region 8 with (first
   | (go_at_call 12;obtain ⟨QT,QO,QP,QL,QK⟩:=eng_read HEI.out;obtain ⟨RT,RO,RP,RL,RK⟩:=eng_read HES.out;refine (likeE_same YN YX _ _ _ _ _ _ _ _ _ _ QT QO QP QL QK RT RO RP RL RK (Nat.le_trans SMY.out.t (by decide)) (Nat.le_trans SMY.out.o (by decide)) (Nat.le_trans SMY.out.p (by decide)) (Nat.le_trans SMY.out.l (by decide)) (fun f hf=>Nat.le_trans (SMY.out.lm f hf) (by decide)) (Nat.le_trans SMY.out.k (by decide)) (fun c hc=>Nat.le_trans (SMY.out.km c hc) (by decide))).mono ?_;rintro e v5 ⟨rfl,hbE⟩;have hbw:Below w.heap.size w v5:=below_two hbw hbE;have zw:=hbw.size;have zz:=hbE.size;clear p0 p1 p2 p3 p4 p5 p6;have DP:=layN DP hbE;obtain ⟨p0,p1,p2,p3,p4,p5,p6⟩:=Lay.c7 (b:=be) DP.out;clear xx0 xx1 xx2 xx3 xx4 xx5 xx6;have DX:=layN DX hbE;obtain ⟨xx0,xx1,xx2,xx3,xx4,xx5,xx6⟩:=Lay.c7 (b:=bx) DX.out;clear ss0 ss1 ss2 ss3 ss4 ss5 ss6;have DS:=layN DS hbE;obtain ⟨ss0,ss1,ss2,ss3,ss4,ss5,ss6⟩:=Lay.c7 (b:=bs) DS.out;have HEE:=engN HEE hbE;have HEI:=engN HEI hbE;have HES:=engN HES hbE))
  clear DS HES HSP HIM
  clear ss0 ss1 ss2 ss3 ss4 ss5 ss6
  go_upto_region 9 with (first
   | (go_at_call 13;refine (drawClose_any cap0 hs (row.mono hbw) hbw.size).mono ?_;rintro e v6 ⟨G,b1,rfl,ee,sm,hkn,hbD⟩;have HEG:Hid (Eng v6 v5.heap.size v6.heap.size (.slice G.aT G.T.length G.cT) (.slice G.aO G.O.length G.cO) (.slice G.aP G.P.length G.cP) (.slice G.aL G.L.length G.cL) (.slice G.aK G.K.length G.cK) G.T G.O G.P G.L G.K):=ee;have SMG:Hid (Small G.T G.O G.P G.L G.K):=sm;clear ee sm hkn;have hbw:Below w.heap.size w v6:=below_two hbw hbD;have zw:=hbw.size;have zz:=hbD.size;clear p0 p1 p2 p3 p4 p5 p6;have DP:=layN DP hbD;obtain ⟨p0,p1,p2,p3,p4,p5,p6⟩:=Lay.c7 (b:=be) DP.out;clear xx0 xx1 xx2 xx3 xx4 xx5 xx6;have DX:=layN DX hbD;obtain ⟨xx0,xx1,xx2,xx3,xx4,xx5,xx6⟩:=Lay.c7 (b:=bx) DX.out;have HEE:=engN HEE hbD;have HEI:=engN HEI hbD))
  obtain ⟨v7,hv7⟩:∃x,x=v6.alloc (.cells #[.int .i64 G.now,.slice G.aT G.T.length G.cT,.slice G.aO G.O.length G.cO,.slice G.aP G.P.length G.cP,.slice G.aL G.L.length G.cL,.slice G.aK G.K.length G.cK,.int .i64 G.nx] 31):=⟨_,rfl⟩
  obtain ⟨bg,ebg⟩:∃b,b=v6.heap.size:=⟨_,rfl⟩
  rw [←hv7,←ebg]
  have ybg:v6.heap.size≤bg∧bg≤v6.heap.size:=by omega
  have ubg:bg<v7.heap.size:=by rw [hv7,ebg];simp
  have kv7:Below v6.heap.size v6 v7:=by rw [hv7];exact new_below _ _
  have DG:Hid (Lay v7 (bg) [.int .i64 G.now,.slice G.aT G.T.length G.cT,.slice G.aO G.O.length G.cO,.slice G.aP G.P.length G.cP,.slice G.aL G.L.length G.cL,.slice G.aK G.K.length G.cK,.int .i64 G.nx]):=by rw [hv7,ebg];exact lay_new _ _ rfl
  clear hv7 ebg
  have hbw:Below w.heap.size w v7:=below_two hbw kv7
  have zw:=hbw.size
  have zz:=kv7.size
  clear p0 p1 p2 p3 p4 p5 p6
  have DP:=layN DP kv7
  obtain ⟨p0,p1,p2,p3,p4,p5,p6⟩:=Lay.c7 (b:=be) DP.out
  clear xx0 xx1 xx2 xx3 xx4 xx5 xx6
  have DX:=layN DX kv7
  obtain ⟨xx0,xx1,xx2,xx3,xx4,xx5,xx6⟩:=Lay.c7 (b:=bx) DX.out
  have HEE:=engN HEE kv7
  have HEI:=engN HEI kv7
  have HEG:=engN HEG kv7
  obtain ⟨gg0,gg1,gg2,gg3,gg4,gg5,gg6⟩:=Lay.c7 (b:=bg) DG.out
  obtain ⟨ZN,ZX,ZT,ZO,ZP,ZL,ZK,g,hY,hcs,hsp,him⟩:=closes14L G.now G.nx G.T G.O G.P G.L G.K b1 (Nat.le_trans SMG.out.t (by decide)) (Nat.le_trans SMG.out.l (by decide)) (fun f hf=>Nat.le_trans (SMG.out.lm f hf) (by decide)) (Nat.le_trans SMG.out.k (by decide)) (fun c hc=>Nat.le_trans (SMG.out.km c hc) (by decide))
  have SMZ:Hid (Small ZT ZO ZP ZL ZK):=hY
  have HCZ:Hid ((g=1∧ZN=0∧ZX=0∧ZT=[]∧ZO=[]∧ZP=[]∧ZL=[]∧ZK=[])∨(g≠0∧g≠1∧ZN=G.now∧ZX=G.nx∧ZT=G.T∧ZO=G.O∧ZP=G.P∧ZL=G.L∧ZK=G.K)∨(g=0∧EgOk ZN ZX ZT ZO ZP ZL ZK∧EgOk G.now G.nx G.T G.O G.P G.L G.K∧ZK.length+1=G.K.length)):=hcs
  have HSP:Hid (∀(w:World) (aT aO aP aL aK:Option Addr) (cT cO cP cL cK:Nat),Quad w.heap.size w aT G.T→Quad w.heap.size w aO G.O→Quad w.heap.size w aP G.P→Fls w.heap.size w aL G.L→Kls w.heap.size w aK G.K→Calls Tryz.prog 15 #[engV G.now aT G.T.length cT aO G.O.length cO aP G.P.length cP aL G.L.length cL aK G.K.length cK G.nx,.int .i64 b1] w (EgPost w ZN ZX ZT ZO ZP ZL ZK (.int .i64 g))):=hsp
  have HIM:Hid (∀(w:World) (aT aO aP aL aK:Option Addr) (cT cO cP cL cK:Nat),Quad w.heap.size w aT G.T→Quad w.heap.size w aO G.O→Quad w.heap.size w aP G.P→Fls w.heap.size w aL G.L→Kls w.heap.size w aK G.K→Calls Tryz.prog 14 #[engV G.now aT G.T.length cT aO G.O.length cO aP G.P.length cP aL G.L.length cL aK G.K.length cK G.nx,.int .i64 b1] w (EgPost w ZN ZX ZT ZO ZP ZL ZK (.int .i64 g))):=him
  clear hsp him hcs hY
  go_upto_region 10 with (first
   | (go_at_call 14;obtain ⟨QT,QO,QP,QL,QK⟩:=eng_read HEG.out;refine (HIM.out _ _ _ _ _ _ _ _ _ _ _ QT QO QP QL QK).mono ?_;rintro e vJ ⟨ajT,cjT,ajO,cjO,ajP,cjP,ajL,cjL,ajK,cjK,rfl,ey,hbP⟩;have HEJ:Hid (Eng vJ v7.heap.size vJ.heap.size (.slice ajT ZT.length cjT) (.slice ajO ZO.length cjO) (.slice ajP ZP.length cjP) (.slice ajL ZL.length cjL) (.slice ajK ZK.length cjK) ZT ZO ZP ZL ZK):=ey;have hbw:Below w.heap.size w vJ:=below_two hbw hbP;have zw:=hbw.size;have zz:=hbP.size;clear p0 p1 p2 p3 p4 p5 p6;have DP:=layN DP hbP;obtain ⟨p0,p1,p2,p3,p4,p5,p6⟩:=Lay.c7 (b:=be) DP.out;clear xx0 xx1 xx2 xx3 xx4 xx5 xx6;have DX:=layN DX hbP;obtain ⟨xx0,xx1,xx2,xx3,xx4,xx5,xx6⟩:=Lay.c7 (b:=bx) DX.out;clear gg0 gg1 gg2 gg3 gg4 gg5 gg6;have DG:=layN DG hbP;obtain ⟨gg0,gg1,gg2,gg3,gg4,gg5,gg6⟩:=Lay.c7 (b:=bg) DG.out;have HEE:=engN HEE hbP;have HEI:=engN HEI hbP;have HEG:=engN HEG hbP))
  obtain ⟨v8,hv8⟩:∃x,x=vJ.alloc (.cells #[.int .i64 ZN,.slice ajT ZT.length cjT,.slice ajO ZO.length cjO,.slice ajP ZP.length cjP,.slice ajL ZL.length cjL,.slice ajK ZK.length cjK,.int .i64 ZX] 31):=⟨_,rfl⟩
  obtain ⟨bj,ebj⟩:∃b,b=vJ.heap.size:=⟨_,rfl⟩
  rw [←hv8,←ebj]
  have ybj:vJ.heap.size≤bj∧bj≤vJ.heap.size:=by omega
  have ubj:bj<v8.heap.size:=by rw [hv8,ebj];simp
  have kv8:Below vJ.heap.size vJ v8:=by rw [hv8];exact new_below _ _
  have DJ:Hid (Lay v8 (bj) [.int .i64 ZN,.slice ajT ZT.length cjT,.slice ajO ZO.length cjO,.slice ajP ZP.length cjP,.slice ajL ZL.length cjL,.slice ajK ZK.length cjK,.int .i64 ZX]):=by rw [hv8,ebj];exact lay_new _ _ rfl
  clear hv8 ebj
  have hbw:Below w.heap.size w v8:=below_two hbw kv8
  have zw:=hbw.size
  have zz:=kv8.size
  clear p0 p1 p2 p3 p4 p5 p6
  have DP:=layN DP kv8
  obtain ⟨p0,p1,p2,p3,p4,p5,p6⟩:=Lay.c7 (b:=be) DP.out
  clear xx0 xx1 xx2 xx3 xx4 xx5 xx6
  have DX:=layN DX kv8
  obtain ⟨xx0,xx1,xx2,xx3,xx4,xx5,xx6⟩:=Lay.c7 (b:=bx) DX.out
  clear gg0 gg1 gg2 gg3 gg4 gg5 gg6
  have DG:=layN DG kv8
  obtain ⟨gg0,gg1,gg2,gg3,gg4,gg5,gg6⟩:=Lay.c7 (b:=bg) DG.out
  have HEE:=engN HEE kv8
  have HEI:=engN HEI kv8
  have HEG:=engN HEG kv8
  have HEJ:=engN HEJ kv8
  obtain ⟨jj0,jj1,jj2,jj3,jj4,jj5,jj6⟩:=Lay.c7 (b:=bj) DJ.out
  go_upto_region 11 with (first
   | (go_at_call 15;obtain ⟨QT,QO,QP,QL,QK⟩:=eng_read HEG.out;refine (HSP.out _ _ _ _ _ _ _ _ _ _ _ QT QO QP QL QK).mono ?_;rintro e vT ⟨atT,ctT,atO,ctO,atP,ctP,atL,ctL,atK,ctK,rfl,ey,hbP⟩;have HET:Hid (Eng vT v8.heap.size vT.heap.size (.slice atT ZT.length ctT) (.slice atO ZO.length ctO) (.slice atP ZP.length ctP) (.slice atL ZL.length ctL) (.slice atK ZK.length ctK) ZT ZO ZP ZL ZK):=ey;have hbw:Below w.heap.size w vT:=below_two hbw hbP;have zw:=hbw.size;have zz:=hbP.size;clear p0 p1 p2 p3 p4 p5 p6;have DP:=layN DP hbP;obtain ⟨p0,p1,p2,p3,p4,p5,p6⟩:=Lay.c7 (b:=be) DP.out;clear xx0 xx1 xx2 xx3 xx4 xx5 xx6;have DX:=layN DX hbP;obtain ⟨xx0,xx1,xx2,xx3,xx4,xx5,xx6⟩:=Lay.c7 (b:=bx) DX.out;clear gg0 gg1 gg2 gg3 gg4 gg5 gg6;have DG:=layN DG hbP;obtain ⟨gg0,gg1,gg2,gg3,gg4,gg5,gg6⟩:=Lay.c7 (b:=bg) DG.out;clear jj0 jj1 jj2 jj3 jj4 jj5 jj6;have DJ:=layN DJ hbP;obtain ⟨jj0,jj1,jj2,jj3,jj4,jj5,jj6⟩:=Lay.c7 (b:=bj) DJ.out;have HEE:=engN HEE hbP;have HEI:=engN HEI hbP;have HEG:=engN HEG hbP;have HEJ:=engN HEJ hbP))
  obtain ⟨v9,hv9⟩:∃x,x=vT.alloc (.cells #[.int .i64 ZN,.slice atT ZT.length ctT,.slice atO ZO.length ctO,.slice atP ZP.length ctP,.slice atL ZL.length ctL,.slice atK ZK.length ctK,.int .i64 ZX] 31):=⟨_,rfl⟩
  obtain ⟨bt,ebt⟩:∃b,b=vT.heap.size:=⟨_,rfl⟩
  rw [←hv9,←ebt]
  have ybt:vT.heap.size≤bt∧bt≤vT.heap.size:=by omega
  have ubt:bt<v9.heap.size:=by rw [hv9,ebt];simp
  have kv9:Below vT.heap.size vT v9:=by rw [hv9];exact new_below _ _
  have DT:Hid (Lay v9 (bt) [.int .i64 ZN,.slice atT ZT.length ctT,.slice atO ZO.length ctO,.slice atP ZP.length ctP,.slice atL ZL.length ctL,.slice atK ZK.length ctK,.int .i64 ZX]):=by rw [hv9,ebt];exact lay_new _ _ rfl
  clear hv9 ebt
  have hbw:Below w.heap.size w v9:=below_two hbw kv9
  have zw:=hbw.size
  have zz:=kv9.size
  clear p0 p1 p2 p3 p4 p5 p6
  have DP:=layN DP kv9
  obtain ⟨p0,p1,p2,p3,p4,p5,p6⟩:=Lay.c7 (b:=be) DP.out
  clear xx0 xx1 xx2 xx3 xx4 xx5 xx6
  have DX:=layN DX kv9
  obtain ⟨xx0,xx1,xx2,xx3,xx4,xx5,xx6⟩:=Lay.c7 (b:=bx) DX.out
  clear gg0 gg1 gg2 gg3 gg4 gg5 gg6
  have DG:=layN DG kv9
  obtain ⟨gg0,gg1,gg2,gg3,gg4,gg5,gg6⟩:=Lay.c7 (b:=bg) DG.out
  clear jj0 jj1 jj2 jj3 jj4 jj5 jj6
  have DJ:=layN DJ kv9
  obtain ⟨jj0,jj1,jj2,jj3,jj4,jj5,jj6⟩:=Lay.c7 (b:=bj) DJ.out
  have HEE:=engN HEE kv9
  have HEI:=engN HEI kv9
  have HEG:=engN HEG kv9
  have HEJ:=engN HEJ kv9
  have HET:=engN HET kv9
  obtain ⟨tt0,tt1,tt2,tt3,tt4,tt5,tt6⟩:=Lay.c7 (b:=bt) DT.out
  go_upto_region 13 with (first
   | (go_at_call 12;obtain ⟨QT,QO,QP,QL,QK⟩:=eng_read HEJ.out;obtain ⟨RT,RO,RP,RL,RK⟩:=eng_read HET.out;refine (likeE_same ZN ZX _ _ _ _ _ _ _ _ _ _ QT QO QP QL QK RT RO RP RL RK (Nat.le_trans SMZ.out.t (by decide)) (Nat.le_trans SMZ.out.o (by decide)) (Nat.le_trans SMZ.out.p (by decide)) (Nat.le_trans SMZ.out.l (by decide)) (fun f hf=>Nat.le_trans (SMZ.out.lm f hf) (by decide)) (Nat.le_trans SMZ.out.k (by decide)) (fun c hc=>Nat.le_trans (SMZ.out.km c hc) (by decide))).mono ?_;rintro e v10 ⟨rfl,hbE⟩;have hbw:Below w.heap.size w v10:=below_two hbw hbE;have zw:=hbw.size;have zz:=hbE.size;clear p0 p1 p2 p3 p4 p5 p6;have DP:=layN DP hbE;obtain ⟨p0,p1,p2,p3,p4,p5,p6⟩:=Lay.c7 (b:=be) DP.out;clear xx0 xx1 xx2 xx3 xx4 xx5 xx6;have DX:=layN DX hbE;obtain ⟨xx0,xx1,xx2,xx3,xx4,xx5,xx6⟩:=Lay.c7 (b:=bx) DX.out;clear gg0 gg1 gg2 gg3 gg4 gg5 gg6;have DG:=layN DG hbE;obtain ⟨gg0,gg1,gg2,gg3,gg4,gg5,gg6⟩:=Lay.c7 (b:=bg) DG.out;clear jj0 jj1 jj2 jj3 jj4 jj5 jj6;have DJ:=layN DJ hbE;obtain ⟨jj0,jj1,jj2,jj3,jj4,jj5,jj6⟩:=Lay.c7 (b:=bj) DJ.out;clear tt0 tt1 tt2 tt3 tt4 tt5 tt6;have DT:=layN DT hbE;obtain ⟨tt0,tt1,tt2,tt3,tt4,tt5,tt6⟩:=Lay.c7 (b:=bt) DT.out;have HEE:=engN HEE hbE;have HEI:=engN HEI hbE;have HEG:=engN HEG hbE;have HEJ:=engN HEJ hbE;have HET:=engN HET hbE))
  clear DT HET HSP HIM
  clear tt0 tt1 tt2 tt3 tt4 tt5 tt6
  go_cut [99] from 83 to 99 (fun s wd=>∃z:Bool,s=.bool z∧z=false∧Hid (Below v10.heap.size v10 wd))
  case first =>
   rcases HCZ.out with ⟨e0,ex⟩|⟨h0,h1,ex⟩|⟨e0,hok,ex,hkl⟩
   ·clear ex HCZ
    subst e0
    go_wp2
    go_meet
    exact ⟨_,rfl,rfl,Below.refl _ _⟩
   ·clear ex HCZ
    go_wp2
    go_meet
    exact ⟨_,rfl,rfl,Below.refl _ _⟩
   ·clear ex HCZ
    subst e0
    have HBZ:Hid (engB ZN ZX ZT ZO ZP ZL ZK=true):=eg_true hok
    have hk100:=SMG.out.k
    have hkz:(G.K.length:Int)=(ZK.length:Int)+1:=by omega
    have wk:IntKind.i64.wrap ((ZK.length:Int)+1-1)=(ZK.length:Int):=by rw [IntKind.wrap_i64];omega
    have wk2:IntKind.i64.wrap ((G.K.length:Int)-1)=(ZK.length:Int):=by rw [IntKind.wrap_i64];omega
    clear hok hkl hkz
    go_wp2_with (first|(go_at_call 16;obtain ⟨QT,QO,QP,QL,QK⟩:=eng_read HEJ.out;refine (implEngineOk_is _ _ _ _ _ HBZ.out QT QO QP QL QK (Nat.le_trans SMZ.out.l (by decide)) (fun f hf=>Nat.le_trans (SMZ.out.lm f hf) (by decide)) (Nat.le_trans SMZ.out.k (by decide)) (fun c hc=>Nat.le_trans (SMZ.out.km c hc) (by decide))).mono ?_;rintro e vE ⟨rfl,hbE⟩;clear gg0 jj0 gg1 jj1 gg2 jj2 gg3 jj3 gg4 jj4 gg5 jj5 gg6 jj6;obtain ⟨gg0,gg1,gg2,gg3,gg4,gg5,gg6⟩:=(layN DG hbE).out.c7;obtain ⟨jj0,jj1,jj2,jj3,jj4,jj5,jj6⟩:=(layN DJ hbE).out.c7))
    go_meet
    exact ⟨_,rfl,rfl,hbE⟩
  case rest =>
  obtain ⟨z,rfl,hz,HB⟩:=hcut
  subst hz
  have hbw:Below w.heap.size w wc:=below_two hbw HB.out
  have DP:=layN DP HB.out
  have DX:=layN DX HB.out
  have HEE:=engN HEE HB.out
  have HEI:=engN HEI HB.out
  have zw:=hbw.size
  clear HCZ DG DJ HEG HEJ p0 p1 p2 p3 p4 p5 p6 xx0 xx1 xx2 xx3 xx4 xx5 xx6 gg0 gg1 gg2 gg3 gg4 gg5 gg6 jj0 jj1 jj2 jj3 jj4 jj5 jj6
  obtain ⟨p0,p1,p2,p3,p4,p5,p6⟩:=DP.out.c7
  obtain ⟨xx0,xx1,xx2,xx3,xx4,xx5,xx6⟩:=DX.out.c7
  rcases HCS.out with ⟨e0,e1,e2,e3,e4,e5,e6,e7⟩|⟨h0,h1,e1,e2,e3,e4,e5,e6,e7⟩|⟨e0,hok,hok0,HFACT⟩
  ·clear HCS
   subst e0 e1 e2 e3 e4 e5 e6 e7
   go_wp2_with (first
    | (go_at_call 12;obtain ⟨QT,QO,QP,QL,QK⟩:=eng_read HEI.out;refine (likeE_same (bT:=none) (bO:=none) (bP:=none) (bL:=none) (bK:=none) 0 0 _ _ _ _ _ 0 0 0 0 0 QT QO QP QL QK (Quad.nil _ _ _) (Quad.nil _ _ _) (Quad.nil _ _ _) (Fls.nil _ _ _) (Kls.nil _ _ _) (by decide) (by decide) (by decide) (by decide) (fun f hf=>by cases hf) (by decide) (fun c hc=>by cases hc)).mono ?_;rintro e vA ⟨rfl,hbE⟩;have hbw:Below w.heap.size w vA:=below_two hbw hbE))
   go_ret
   exact ⟨rfl,hbw⟩
  ·clear HCS
   subst e1 e2 e3 e4 e5 e6 e7
   go_wp2_with (first
    | (go_at_call 12;obtain ⟨QT,QO,QP,QL,QK⟩:=eng_read HEI.out;obtain ⟨RT,RO,RP,RL,RK⟩:=eng_read HEE.out;refine (likeE_same E.now E.nx _ _ _ _ _ _ _ _ _ _ QT QO QP QL QK RT RO RP RL RK (Nat.le_trans SM0.out.t (by decide)) (Nat.le_trans SM0.out.o (by decide)) (Nat.le_trans SM0.out.p (by decide)) (Nat.le_trans SM0.out.l (by decide)) (fun f hf=>Nat.le_trans (SM0.out.lm f hf) (by decide)) (Nat.le_trans SM0.out.k (by decide)) (fun c hc=>Nat.le_trans (SM0.out.km c hc) (by decide))).mono ?_;rintro e vA ⟨rfl,hbE⟩;have hbw:Below w.heap.size w vA:=below_two hbw hbE;have zw:=hbw.size;have zz:=hbE.size;clear p0 p1 p2 p3 p4 p5 p6;have DP:=layN DP hbE;obtain ⟨p0,p1,p2,p3,p4,p5,p6⟩:=Lay.c7 (b:=be) DP.out;clear xx0 xx1 xx2 xx3 xx4 xx5 xx6;have DX:=layN DX hbE;obtain ⟨xx0,xx1,xx2,xx3,xx4,xx5,xx6⟩:=Lay.c7 (b:=bx) DX.out;have HEE:=engN HEE hbE;have HEI:=engN HEI hbE))
   go_ret
   exact ⟨rfl,hbw⟩
  ·clear HCS
   subst e0
   obtain ⟨e1,e2,e3,e4,e5,hkl,i,p,hi,hp,hfi,hpl,hl,hk⟩:=HFACT
   have HBY:Hid (engB YN YX YT YO YP YL YK=true):=eg_true hok
   have FIM:Hid (∀(w:World) (aT aO aP aL aK:Option Addr) (cT cO cP cL cK:Nat),Quad w.heap.size w aT YT→Quad w.heap.size w aO YO→Quad w.heap.size w aP YP→Fls w.heap.size w aL YL→Kls w.heap.size w aK YK→Calls Tryz.prog 14 #[engV YN aT YT.length cT aO YO.length cO aP YP.length cP aL YL.length cL aK YK.length cK YX,.int .i64 a1] w (EgPost w E.now E.nx E.T E.O E.P E.L E.K (.int .i64 0))):=fun w aT aO aP aL aK cT cO cP cL cK q1 q2 q3 q4 q5=>by
    have r:=implCls_go YN YX cT cO cP cL cK a1 q1 q2 q3 q4 q5 (Nat.le_trans SMY.out.l (by decide)) (fun f hf=>Nat.le_trans (SMY.out.lm f hf) (by decide)) (Nat.le_trans SMY.out.k (by decide)) (fun c hc=>Nat.le_trans (SMY.out.km c hc) (by decide)) HBY.out i hi hfi p hpl hp
    rw [hl,hk] at r
    rw [←e1,←e2,←e3,←e4,←e5]
    exact r
   have hk100:=SM0.out.k
   have wk:IntKind.i64.wrap ((E.K.length:Int)+1)=(YK.length:Int):=by rw [IntKind.wrap_i64];omega
   clear e1 e2 e3 e4 e5 hok hok0 hfi hpl hl hk hi hp hkl
   go_upto_region 20 with (first
    | (go_at_call 14;obtain ⟨QT,QO,QP,QL,QK⟩:=eng_read HEI.out;refine (FIM.out _ _ _ _ _ _ _ _ _ _ _ QT QO QP QL QK).mono ?_;rintro e vB ⟨acT,ccT,acO,ccO,acP,ccP,acL,ccL,acK,ccK,rfl,ey,hbP⟩;have HEB:Hid (Eng vB wc.heap.size vB.heap.size (.slice acT E.T.length ccT) (.slice acO E.O.length ccO) (.slice acP E.P.length ccP) (.slice acL E.L.length ccL) (.slice acK E.K.length ccK) E.T E.O E.P E.L E.K):=ey;have hbw:Below w.heap.size w vB:=below_two hbw hbP;have zw:=hbw.size;have zz:=hbP.size;clear p0 p1 p2 p3 p4 p5 p6;have DP:=layN DP hbP;obtain ⟨p0,p1,p2,p3,p4,p5,p6⟩:=Lay.c7 (b:=be) DP.out;clear xx0 xx1 xx2 xx3 xx4 xx5 xx6;have DX:=layN DX hbP;obtain ⟨xx0,xx1,xx2,xx3,xx4,xx5,xx6⟩:=Lay.c7 (b:=bx) DX.out;have HEE:=engN HEE hbP;have HEI:=engN HEI hbP))
   obtain ⟨vC,hvC⟩:∃x,x=vB.alloc (.cells #[.int .i64 E.now,.slice acT E.T.length ccT,.slice acO E.O.length ccO,.slice acP E.P.length ccP,.slice acL E.L.length ccL,.slice acK E.K.length ccK,.int .i64 E.nx] 31):=⟨_,rfl⟩
   obtain ⟨bb0,ebb0⟩:∃b,b=vB.heap.size:=⟨_,rfl⟩
   rw [←hvC,←ebb0]
   have ybb0:vB.heap.size≤bb0∧bb0≤vB.heap.size:=by omega
   have ubb0:bb0<vC.heap.size:=by rw [hvC,ebb0];simp
   have kvC:Below vB.heap.size vB vC:=by rw [hvC];exact new_below _ _
   have DB:Hid (Lay vC (bb0) [.int .i64 E.now,.slice acT E.T.length ccT,.slice acO E.O.length ccO,.slice acP E.P.length ccP,.slice acL E.L.length ccL,.slice acK E.K.length ccK,.int .i64 E.nx]):=by rw [hvC,ebb0];exact lay_new _ _ rfl
   clear hvC ebb0
   have hbw:Below w.heap.size w vC:=below_two hbw kvC
   have zw:=hbw.size
   have zz:=kvC.size
   clear p0 p1 p2 p3 p4 p5 p6
   have DP:=layN DP kvC
   obtain ⟨p0,p1,p2,p3,p4,p5,p6⟩:=Lay.c7 (b:=be) DP.out
   clear xx0 xx1 xx2 xx3 xx4 xx5 xx6
   have DX:=layN DX kvC
   obtain ⟨xx0,xx1,xx2,xx3,xx4,xx5,xx6⟩:=Lay.c7 (b:=bx) DX.out
   have HEE:=engN HEE kvC
   have HEI:=engN HEI kvC
   have HEB:=engN HEB kvC
   obtain ⟨bb0,bb1,bb2,bb3,bb4,bb5,bb6⟩:=Lay.c7 (b:=bb0) DB.out
   go_wp2_with (first
    | (go_at_call 12;obtain ⟨QT,QO,QP,QL,QK⟩:=eng_read HEB.out;obtain ⟨RT,RO,RP,RL,RK⟩:=eng_read HEE.out;refine (likeE_same E.now E.nx _ _ _ _ _ _ _ _ _ _ QT QO QP QL QK RT RO RP RL RK (Nat.le_trans SM0.out.t (by decide)) (Nat.le_trans SM0.out.o (by decide)) (Nat.le_trans SM0.out.p (by decide)) (Nat.le_trans SM0.out.l (by decide)) (fun f hf=>Nat.le_trans (SM0.out.lm f hf) (by decide)) (Nat.le_trans SM0.out.k (by decide)) (fun c hc=>Nat.le_trans (SM0.out.km c hc) (by decide))).mono ?_;rintro e vD ⟨rfl,hbE⟩;have hbw:Below w.heap.size w vD:=below_two hbw hbE;have zw:=hbw.size;have zz:=hbE.size;clear p0 p1 p2 p3 p4 p5 p6;have DP:=layN DP hbE;obtain ⟨p0,p1,p2,p3,p4,p5,p6⟩:=Lay.c7 (b:=be) DP.out;clear xx0 xx1 xx2 xx3 xx4 xx5 xx6;have DX:=layN DX hbE;obtain ⟨xx0,xx1,xx2,xx3,xx4,xx5,xx6⟩:=Lay.c7 (b:=bx) DX.out;clear bb0 bb1 bb2 bb3 bb4 bb5 bb6;have DB:=layN DB hbE;obtain ⟨bb0,bb1,bb2,bb3,bb4,bb5,bb6⟩:=Lay.c7 (b:=bb0) DB.out;have HEE:=engN HEE hbE;have HEI:=engN HEI hbE;have HEB:=engN HEB hbE)
    | (go_at_call 16;obtain ⟨QT,QO,QP,QL,QK⟩:=eng_read HEI.out;refine (implEngineOk_is _ _ _ _ _ HBY.out QT QO QP QL QK (Nat.le_trans SMY.out.l (by decide)) (fun f hf=>Nat.le_trans (SMY.out.lm f hf) (by decide)) (Nat.le_trans SMY.out.k (by decide)) (fun c hc=>Nat.le_trans (SMY.out.km c hc) (by decide))).mono ?_;rintro e vF ⟨rfl,hbE⟩;have hbw:Below w.heap.size w vF:=below_two hbw hbE;have zw:=hbw.size;have zz:=hbE.size;clear p0 p1 p2 p3 p4 p5 p6;have DP:=layN DP hbE;obtain ⟨p0,p1,p2,p3,p4,p5,p6⟩:=Lay.c7 (b:=be) DP.out;clear xx0 xx1 xx2 xx3 xx4 xx5 xx6;have DX:=layN DX hbE;obtain ⟨xx0,xx1,xx2,xx3,xx4,xx5,xx6⟩:=Lay.c7 (b:=bx) DX.out;clear bb0 bb1 bb2 bb3 bb4 bb5 bb6;have DB:=layN DB hbE;obtain ⟨bb0,bb1,bb2,bb3,bb4,bb5,bb6⟩:=Lay.c7 (b:=bb0) DB.out;have HEE:=engN HEE hbE;have HEI:=engN HEI hbE;have HEB:=engN HEB hbE))
   go_ret
   exact ⟨rfl,hbw⟩
 ·have hbig:(4096:Int)<(len0:Int):=by omega
  go_enter Tryz.func3,Tryz.ntmps3
  go_wp2
  go_ret
  exact ⟨rfl,Below.refl _ _⟩
set_option maxRecDepth 100000 in
theorem lifted (os:Os) (started:os.Started) (H:Type) (enc:TypeId × Value→H) :
 ReturnsInHanded {} Tryz.checked os 3 .any (Rows.fnOpenedSpec.pre6 enc Tryz.prog Tryz.f3 Rows.fnOpenedRow.domain false) (Rows.fnOpenedSpec.post enc Tryz.prog Tryz.f3 false true false false):=by
 refine returnsInHanded_of_change (C:=Tryz.checked) own started (by kernel_rfl) Tryz.func3
  (ChangeSpec.witness6 (enc:=enc) (C:=Tryz.checked) false ⟨#[],#[.slice none 0 0],[]⟩ 8 (by kernel_rfl) (by kernel_rfl) (by kernel_rfl) (by kernel_rfl)) ?_
 intro W base args ds gs before hval0 hW hcnd _
 have hval:∀(j:Nat) t v,Tryz.f3.params[j]?=some t→args[j]?=some v→Value.okWide Tryz.prog W .any base t v:=hval0
 have hW':=hW
 obtain ⟨p,q,hA0,hV,rfl,hfz,hnd⟩:=hW
 have hA:DataW.TrodAll enc Tryz.prog W 0 (fun _=>true) true Tryz.f3.params.toList args.toList ds p:=hA0
 rw [Tryz.params3] at hA hval
 obtain ⟨v0,vs0,d0,ds0,p0,q0,hargs,rfl,rfl,h0,r0⟩:=trodAll_cons hA
 obtain ⟨rfl,rfl,rfl⟩:=trodAll_nil r0
 obtain rfl:args=#[v0]:=by cases args;simp_all
 obtain ⟨rfl,rfl⟩:=trodVars_none hV
 obtain ⟨a0,len0,cap0,rfl⟩:=okWide_slice Tryz.underlying22 (hval 0 22 v0 rfl rfl)
 have k0:=h0
 have lt0:∀x ∈ p0,x.block<W.heap.size:=by obtain ⟨m,hm⟩:=k0;exact DataW.trod_lt m _ _ _ hm
 obtain ⟨z0,w0⟩:∃zs,IsRow .u8 W a0 len0 cap0 zs:=by
  obtain ⟨fuel,hf⟩:=h0
  rcases open_ints Tryz.underlying22 Tryz.underlying5 (by kernel_rfl) hf with ⟨hcs,_⟩|⟨x,l,c,zs,hcs,_,hl,hm,hz,_,hcell,hwz⟩
  ·simp [Value.cells] at hcs
   obtain ⟨rfl,rfl,rfl⟩:=hcs
   exact ⟨[],.inl ⟨rfl,rfl,rfl,rfl⟩⟩
  ·simp [Value.cells] at hcs
   obtain ⟨rfl,rfl,rfl⟩:=hcs
   exact ⟨zs,.inr ⟨_,rfl,hl,hm,by simpa using hz,hcell,hwz⟩⟩
 clear hA0 hval0
 refine (walk a0 len0 cap0 z0 W w0).mono fun e W' ⟨he,bel⟩=>?_
 subst he
 exact ⟨_,rfl,_,_,_,[],_,[],hW',trodAll_mk1 (shut_bool Tryz.underlying4 _),(trodAll_cons_mk (Below.trod laidOut (by kernel_rfl) (of_decide_eq_true (by kernel_rfl)) k0 bel lt0) trodAll_mk0),rfl,bel.frame _,fun h=>by cases h⟩
theorem over:Rows.fnOpenedRow.holds Tryz.pinned (OpenSpec.ofChange Rows.fnOpenedSpec) :=
 OpenClaim.holds_of_wide 3 Tryz.f3 rfl rfl rfl rfl rfl rfl rfl ⟨rfl,rfl,rfl,rfl,rfl⟩ rfl rfl rfl rfl rfl (by kernel_rfl) Tryz.func3 (by kernel_rfl)
  (of_decide_eq_true (by kernel_rfl)) (by unfold Func.isWrapper;first|(rw [if_pos (by decide +kernel)];kernel_rfl)|(rw [if_neg (by decide +kernel)];exact ⟨rfl,rfl⟩))
  (fun os started H enc _=>lifted os started H enc)
theorem proved:Rows.FnOpenedSaid:=over
#print axioms proved
end Go.Proofs.YthiojkjcmhojoaaGreat.fnOpened
namespace Go.Proofs.YthiojkjcmhojoaaGreat
theorem fnOpened_holds:Rows.FnOpenedSaid:=fnOpened.proved
#print axioms fnOpened_holds
end Go.Proofs.YthiojkjcmhojoaaGreat
