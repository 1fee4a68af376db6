import Derived.Test.YthiojkjcmhojoaaGreatGfBL
import Derived.Test.YthiojkjcmhojoaaGreatGfBH
import Derived.Test.YthiojkjcmhojoaaGreatGfAXX1
namespace Go.Proofs.YthiojkjcmhojoaaGreat
set_option maxHeartbeats 16000000
open Go.ChangeShapes Go.WideShapes Go.ChangeAt Go.RowKit
set_option maxRecDepth 100000
set_option linter.unusedVariables false
set_option linter.unusedSimpArgs false
section
variable {w:World} {lo hi:Nat} (E:EgR)
theorem dSub (h:E.ok) (o:E.own w lo hi) (id n:Int):Calls Tryz.prog 19 #[zcp E.now E.aT E.T.length E.cT E.aO E.O.length E.cO E.aP E.P.length E.cP E.aL E.L.length E.cL E.aK E.K.length E.cK E.nx,.int .i64 id,.int .i64 n] w (zxr w E):=by
 have r:=o.rd
 have z:=zl2 h
 have h1:=zfl h
 by_cases hf:fK E.K id = -1
 ·exact (zu5 E.now E.nx E.cT E.cO E.cP E.cL E.cK id n r.t r.o r.p r.l r.k z.t z.l z.sl z.k z.sk h1 hf).mono fun e w' q=>zh5 q h rfl (fun q=>q)
 ·obtain ⟨i,hi,hfi,_⟩:=znt hf
  cases hg:zfo n
  ·exact (zqe E.now E.nx E.cT E.cO E.cP E.cL E.cK id n r.t r.o r.p r.l r.k z.t z.l z.sl z.k z.sk h1 i hi hfi hg).mono fun e w' q=>zh5 q h rfl (fun q=>q)
  ·by_cases hfull:E.K[i].xs.length=100
   ·exact (zqf E.now E.nx E.cT E.cO E.cP E.cL E.cK id n r.t r.o r.p r.l r.k z.t z.l z.sl z.k z.sk h1 i hi hfi hg hfull).mono fun e w' q=>zh5 q h rfl (fun q=>q)
   ·exact (zu6 E.now E.nx E.cT E.cO E.cP E.cL E.cK id n r.t r.o r.p r.l r.k z.t z.l z.sl z.k z.sk h1 i hi hfi hg hfull).mono fun e w' q=>zh5 q (zxo h hi hg hfull) rfl ziv
theorem dFwd (h:E.ok) (o:E.own w lo hi) (ns:Int):Calls Tryz.prog 31 #[zcp E.now E.aT E.T.length E.cT E.aO E.O.length E.cO E.aP E.P.length E.cP E.aL E.L.length E.cL E.aK E.K.length E.cK E.nx,.int .i64 ns] w (zxr w E):=by
 have r:=o.rd
 have z:=zl2 h
 have h1:=zfl h
 cases h2:zau ns
 ·exact (zlx E.now E.nx E.cT E.cO E.cP E.cL E.cK ns r.t r.o r.p r.l r.k z.t z.l z.sl z.k z.sk h1 h2).mono fun e w' q=>zh5 q h rfl (fun q=>q)
 ·by_cases h3:1000000000000000<E.now+ns
  ·exact (zly E.now E.nx E.cT E.cO E.cP E.cL E.cK ns r.t r.o r.p r.l r.k z.t z.l z.sl z.k z.sk h1 h2 h3).mono fun e w' q=>zh5 q h rfl (fun q=>q)
  ·exact (znd E.now E.nx E.cT E.cO E.cP E.cL E.cK ns r.t r.o r.p r.l r.k z.t z.l z.sl z.k z.sk h1 h2 h3).mono fun e w' q=>zh5 q (zl1 h h2 h3) rfl (fun q=>q)
theorem dAck (h:E.ok) (o:E.own w lo hi) (id n:Int):Calls Tryz.prog 24 #[zcp E.now E.aT E.T.length E.cT E.aO E.O.length E.cO E.aP E.P.length E.cP E.aL E.L.length E.cL E.aK E.K.length E.cK E.nx,.int .i64 id,.int .i64 n] w (zxr w E):=by
 have r:=o.rd
 have z:=zl2 h
 have h1:=zfl h
 by_cases hf:fK E.K id = -1
 ·exact (zql E.now E.nx E.cT E.cO E.cP E.cL E.cK id n r.t r.o r.p r.l r.k z.t z.l z.sl z.k z.sk h1 hf).mono fun e w' q=>zh5 q h rfl (fun q=>q)
 ·obtain ⟨i,hi,hfi,_⟩:=znt hf
  cases hg:inQ 1 n E.K[i].fl
  ·exact (zmm E.now E.nx E.cT E.cO E.cP E.cL E.cK id n r.t r.o r.p r.l r.k z.t z.l z.sl z.k z.sk h1 i hi hfi hg).mono fun e w' q=>zh5 q h rfl (fun q=>q)
  ·obtain ⟨p,hpl,hp⟩:=zkq h hi
   rcases zr0 h hi with hk|hk
   ·exact (zn9 E.now E.nx E.cT E.cO E.cP E.cL E.cK id n r.t r.o r.p r.l r.k z.t z.l z.sl z.k z.sk h1 i hi hfi hg p hpl hp hk).mono fun e w' q=>zh5 q (ziu h hi hpl hp false hg) rfl ziv
   ·exact (zoa E.now E.nx E.cT E.cO E.cP E.cL E.cK id n r.t r.o r.p r.l r.k z.t z.l z.sl z.k z.sk h1 i hi hfi hg p hpl hp hk).mono fun e w' q=>zh5 q (ziu h hi hpl hp false hg) rfl ziv
theorem dLost (h:E.ok) (o:E.own w lo hi) (id n:Int):Calls Tryz.prog 25 #[zcp E.now E.aT E.T.length E.cT E.aO E.O.length E.cO E.aP E.P.length E.cP E.aL E.L.length E.cL E.aK E.K.length E.cK E.nx,.int .i64 id,.int .i64 n] w (zxr w E):=by
 have r:=o.rd
 have z:=zl2 h
 have h1:=zfl h
 by_cases hf:fK E.K id = -1
 ·exact (zsc E.now E.nx E.cT E.cO E.cP E.cL E.cK id n r.t r.o r.p r.l r.k z.t z.l z.sl z.k z.sk h1 hf).mono fun e w' q=>zh5 q h rfl (fun q=>q)
 ·obtain ⟨i,hi,hfi,_⟩:=znt hf
  cases hg:inQ 1 n E.K[i].fl
  ·exact (zn8 E.now E.nx E.cT E.cO E.cP E.cL E.cK id n r.t r.o r.p r.l r.k z.t z.l z.sl z.k z.sk h1 i hi hfi hg).mono fun e w' q=>zh5 q h rfl (fun q=>q)
  ·obtain ⟨p,hpl,hp⟩:=zkq h hi
   rcases zr0 h hi with hk|hk
   ·exact (zqj E.now E.nx E.cT E.cO E.cP E.cL E.cK id n r.t r.o r.p r.l r.k z.t z.l z.sl z.k z.sk h1 i hi hfi hg p hpl hp hk).mono fun e w' q=>zh5 q (ziu h hi hpl hp true hg) rfl ziv
   ·exact (zqk E.now E.nx E.cT E.cO E.cP E.cL E.cK id n r.t r.o r.p r.l r.k z.t z.l z.sl z.k z.sk h1 i hi hfi hg p hpl hp hk).mono fun e w' q=>zh5 q (ziu h hi hpl hp true hg) rfl ziv
def OPost (w:World) (E0:EgR) (e:Ending) (w':World):Prop:=∃(E:EgR) (f:Int),e=.returned (.tuple #[zcp E.now E.aT E.T.length E.cT E.aO E.O.length E.cO E.aP E.P.length E.cP E.aL E.L.length E.cL E.aK E.K.length E.cK E.nx,.int .i64 f])∧E.own w' w.heap.size w'.heap.size∧E.ok∧E.T=E0.T∧E.L.length=E0.L.length∧E.K≠[]∧Below w.heap.size w w'
theorem z19 {w:World} {now nx:Int} {T O P:List Q4} {L:List F8} {K:List Kn} {f:Int} {E0:EgR} {e:Ending} {w':World} (h:zbx w now nx T O P L K (.int .i64 f) e w') (ok:EgOk now nx T O P L K) (hT:T=E0.T) (hL:L.length=E0.L.length) (hK:K≠[]):OPost w E0 e w':=by
 obtain ⟨aT,cT,aO,cO,aP,cP,aL,cL,aK,cK,he,eg,hb⟩:=h
 exact ⟨⟨now,nx,aT,aO,aP,aL,aK,cT,cO,cP,cL,cK,T,O,P,L,K⟩,f,he,eg,ok,hT,hL,hK,hb⟩
theorem dOpn (h:E.ok) (o:E.own w lo hi) {id lf pl kd:Int} (hn:inQ 0 id 1000000=true) (hlf:zmh E.T lf=true) (hpl:0≤pl∧pl<E.L.length) (hk:zlq kd=true):Calls Tryz.prog 11 #[zcp E.now E.aT E.T.length E.cT E.aO E.O.length E.cO E.aP E.P.length E.cP E.aL E.L.length E.cL E.aK E.K.length E.cK E.nx,.int .i64 id,.int .i64 lf,.int .i64 pl,.int .i64 kd] w (OPost w E):=by
 have r:=o.rd
 have z:=zl2 h
 have h1:=zfl h
 obtain ⟨p,hpe⟩:∃p:Nat,pl=(p:Int):=⟨pl.toNat,by omega⟩
 have hp:p<E.L.length:=by omega
 by_cases hf:fK E.K id = -1
 rotate_left 1
 ·obtain ⟨i,hi,hfi,_⟩:=znt hf
  exact (zsh E.now E.nx E.cT E.cO E.cP E.cL E.cK id lf pl kd r.t r.o r.p r.l r.k z.t z.l z.sl z.k z.sk h1 hn i hi hfi).mono fun e w' q=>z19 q h rfl rfl (fun e=>by rw [e] at hi;cases hi)
 ·have hl:=hlf
  unfold zmh at hl
  simp only [Bool.and_eq_true] at hl
  have hq:inQ 0 pl ((E.L.length:Int)-1)=true:=by
   unfold inQ
   simp only [Bool.and_eq_true,decide_eq_true_eq]
   omega
  by_cases h40:E.K.length=40
  ·exact (zqp E.now E.nx E.cT E.cO E.cP E.cL E.cK id lf pl kd r.t r.o r.p r.l r.k z.t z.l z.sl z.k z.sk h1 hf hn hl.1 hl.2 hq p hpe hp hk h40).mono fun e w' q=>z19 q h rfl rfl (fun e=>by rw [e] at h40;cases h40)
  ·have h40':E.K.length<40:=by have:=h.k1;omega
   obtain ⟨i,hpos⟩:=z0e E.K id h.rise (zxe hf)
   exact (zvc E.now E.nx E.cT E.cO E.cP E.cL E.cK id lf pl kd r.t r.o r.p r.l r.k z.t z.l z.sl z.k z.sk h1 hf hn hl.1 hl.2 hq p hpe hp hk h40' i hpos).mono fun e w' q=>z19 q (by rw [hpe];exact zxp h hf hn hlf hp hk h40' hpos) rfl (by rw [List.length_set]) (fun e=>by
    have:=congrArg List.length e
    rw [zdi] at this
    cases this)
end
theorem zxu {w:World} {lo hi:Nat} (E:EgR) (h:E.ok) (o:E.own w lo hi):Calls Tryz.prog 143 #[zcp E.now E.aT E.T.length E.cT E.aO E.O.length E.cO E.aP E.P.length E.cP E.aL E.L.length E.cL E.aK E.K.length E.cK E.nx] w (GPost w E.T E.K):=by
 have r:=o.rd
 have z:=zl2 h
 exact zod E.now E.nx E.cT E.cO E.cP E.cL E.cK r.t r.o r.p r.l r.k h z.t z.l z.sl z.k z.sk
theorem con_kd {m:Int} (h:0≤m∧m<2):zlq (1+m)=true:=by
 have:m=0∨m=1:=by omega
 rcases this with rfl|rfl <;> decide
theorem id_9 {m:Int} (h:0≤m∧m<9):inQ 0 m 1000000=true:=by
 unfold inQ
 simp only [Bool.and_eq_true,decide_eq_true_eq]
 omega
theorem zsi {B:Nat} {a0:Option Addr} {len cap b:Nat} {w:World} (k:Cur B a0 len cap b w):Calls Tryz.prog 91 #[.pointer (some ⟨b,0,none⟩)] w (P14 B a0 len cap b w):=by
 have hlt:=k.hi
 obtain ⟨v,hv,kv,ov,zv,lv⟩:∃v,w.alloc (.cells #[.int .i64 0,.slice none 0 0,.slice none 0 0,.slice none 0 0,.slice none 0 0,.slice none 0 0,.int .i64 0] 31)=v∧Cur B a0 len cap b v∧Only b w v∧v.heap.size=w.heap.size+1∧Lay v w.heap.size [.int .i64 0,.slice none 0 0,.slice none 0 0,.slice none 0 0,.slice none 0 0,.slice none 0 0,.int .i64 0] :=
  ⟨_,rfl,k.alloc _,(Only.refl _ _).alloc _,by simp,zbs [.int .i64 0,.slice none 0 0,.slice none 0 0,.slice none 0 0,.slice none 0 0,.slice none 0 0,.int .i64 0] _ rfl⟩
 go_enter Tryz.func91,Tryz.ntmps91
 go_upto_region 1 with (fail)
 clear hv
 have hbv0:b<v.heap.size:=kv.hi
 go_upto_if 19 with (first
  | (go_at_call 142;refine (zud kv).mono ?_;rintro e wA ⟨aA,nA,cA,TA,rfl,dA,hTA⟩;obtain ⟨gA,c0A,evA,_,_⟩:=ze3 dA.own hTA.1;injection evA with evA1 evA2 evA3;subst evA1 evA2 evA3;have DA:Hid (TSt B a0 len cap b v wA (.slice (some ⟨gA,0,none⟩) TA.length cA) TA):=dA;clear dA)
  | (go_at_call 35;refine (zat _ DA.out.cur (Only.refl _ _) (by omega) (by omega)).mono ?_;rintro e wB ⟨xB,rfl,hxB,kB,oB⟩;have DB:Hid (TSt B a0 len cap b v wB (.slice (some ⟨gA,0,none⟩) TA.length cA) TA):=DA.out.draw oB kB;have wxB:IntKind.i64.wrap (1+xB)=1+xB:=(by rw [IntKind.wrap_i64];omega))
  | (go_at_call 141;refine (dNew cA (1+xB) (zs1 DB.out.own)).mono ?_;rintro e wC ⟨E0,rfl,eC,hokC,hbC⟩))
 have zB:=DB.out.only.size
 have zC:=hbC.size
 obtain ⟨q,hq⟩:∃q,wC.heap.size=q:=⟨_,rfl⟩
 have dx:=z16 (u:=31) (q:=q) hlt hq.symm (by omega) ((ov.trans DB.out.only).trans (Only.of_below hbC)) (DB.out.cur.mono hbC) ((lv.only DB.out.only (by omega)).next hbC) [.int .i64 E0.now,.slice E0.aT E0.T.length E0.cT,.slice E0.aO E0.O.length E0.cO,.slice E0.aP E0.P.length E0.cP,.slice E0.aL E0.L.length E0.cL,.slice E0.aK E0.K.length E0.cK,.int .i64 E0.nx]
 have eX:=eC.next (zac wC (.cells #[.int .i64 E0.now,.slice E0.aT E0.T.length E0.cT,.slice E0.aO E0.O.length E0.cO,.slice E0.aP E0.P.length E0.cP,.slice E0.aL E0.L.length E0.cL,.slice E0.aK E0.K.length E0.cK,.int .i64 E0.nx] 31))
 obtain ⟨x,hx⟩:∃x,wC.alloc (.cells #[.int .i64 E0.now,.slice E0.aT E0.T.length E0.cT,.slice E0.aO E0.O.length E0.cO,.slice E0.aP E0.P.length E0.cP,.slice E0.aL E0.L.length E0.cL,.slice E0.aK E0.K.length E0.cK,.int .i64 E0.nx] 31)=x:=⟨_,rfl⟩
 rw [hq] at eX
 rw [hx,hq]
 have DX:D15 B a0 len cap b w x q [.int .i64 E0.now,.slice E0.aT E0.T.length E0.cT,.slice E0.aO E0.O.length E0.cO,.slice E0.aP E0.P.length E0.cP,.slice E0.aL E0.L.length E0.cL,.slice E0.aK E0.K.length E0.cK,.int .i64 E0.nx]:=by rw [←hx];exact dx
 have EX:Hid (E0.own x wB.heap.size q):=by rw [←hx];exact eX
 have zB2:w.heap.size<wB.heap.size:=by omega
 obtain ⟨f,hf⟩:∃f,nwB TA (1+xB)=f:=⟨_,rfl⟩
 rw [hf] at hokC ⊢
 have HOK:Hid (f=true→E0.ok∧E0.T=TA∧zah TA=0):=hokC
 clear hokC hf dx eX eC hx hbC zC DB DA kB oB hxB wxB
 go_cut [4] from 9 to 25 (fun _ wd=>∃E,zah E.T=0∧D14 B a0 len cap b w wd q E)
 case first =>
  cases f
  ·have nb:=zac x (.cells #[.int .i64 (-1),.int .i64 5000,.int .i64 5000,.int .i64 9000] 110)
   have hq:Quad _ (x.alloc (.cells #[.int .i64 (-1),.int .i64 5000,.int .i64 5000,.int .i64 9000] 110)) (some ⟨x.heap.size,0,none⟩) [((-1:Int),(5000:Int),(5000:Int),(9000:Int))]:=zs1 (zpk x 0 (by omega) (-1) 5000 5000 9000)
   go_wp2_with (first|(go_at_call 141;refine (dNew 1 1 hq).mono ?_;rintro e wE ⟨E2,rfl,ow2,hok2,hbE⟩;have hbv:=zaa nb hbE;have DE:=DX.next hbv;have k0:=DE.var.cell 0 _ rfl;obtain ⟨k0,k1,k2,k3,k4,k5,k6⟩:=DE.var.c7;have kf:=DE.var.free))
   obtain ⟨y,hy',oy,ly⟩:=st7 (b:=q) DE.var (.int .i64 E2.now) (.slice E2.aT E2.T.length E2.cT) (.slice E2.aO E2.O.length E2.cO) (.slice E2.aP E2.P.length E2.cP) (.slice E2.aL E2.L.length E2.cL) (.slice E2.aK E2.K.length E2.cK) (.int .i64 E2.nx)
   rw [hy']
   clear hy'
   have DY:=DE.store E2 ow2 (by have:=DX.only.size;simp;omega) (.inl (by have:=DX.var.lt;simp;omega)) (hok2 zji).1 oy ly
   go_meet
   exact ⟨_,by rw [(hok2 zji).2.1];exact (hok2 zji).2.2,DY⟩
  ·have H:=HOK.out rfl
   go_wp2
   go_meet
   exact ⟨E0,by rw [H.2.1];exact H.2.2,DX.is EX.out zB2 (.inr (Nat.le_refl _)) H.1⟩
 case rest =>
  clear DX EX HOK
  obtain ⟨E,hcode,d0⟩:=hcut
  have D:Hid (D14 B a0 len cap b w wc q E):=d0
  obtain ⟨lo,hh,eo,hlo,hqo⟩:=d0.own
  have HQ:Hid (Quad wc.heap.size wc E.aT E.T):=eo.rd.t
  have HTL:Hid (E.T.length≤1048576):=(zl2 d0.ok).t
  clear eo hlo hqo
  have p1:wc.cell? ⟨q,1,none⟩=some (.slice E.aT E.T.length E.cT):=d0.var.cell 1 _ rfl
  clear d0
  go_wp2_with (first|(go_at_call 39;refine (zmd E.cT HQ.out HTL.out).mono ?_;rintro e w5 ⟨la,ln,lc,rfl,ivL,hb5⟩;have nz:=zgm ivL;subst nz;have D5:Hid (D14 B a0 len cap b w w5 q E):=D.out.next hb5;have IL:Hid (IV w5 (q+1) (.slice la (zbj E.T).length lc) (zbj E.T)):=ivL.lower (by have:=D.out.big;omega);clear D)|(go_at_call 35;refine (zat _ D5.out.cur (Only.refl _ _) (by omega) (by omega)).mono ?_;rintro e w6 ⟨x6,rfl,hx6,k6,o6⟩;have D6:Hid (D14 B a0 len cap b w w6 q E):=D5.out.draw o6 k6;have IL:Hid (IV w6 (q+1) (.slice la (zbj E.T).length lc) (zbj E.T)):=IL.out.only14 o6 (by have:=D5.out.lt;have:=D5.out.oq;omega);have wx6:IntKind.i64.wrap (1+x6)=1+x6:=(by rw [IntKind.wrap_i64];omega);clear k6 o6))
  obtain ⟨T1,hT1⟩:∃T1,E.T=T1:=⟨_,rfl⟩
  rw [hT1] at IL hcode ⊢
  have hls:=zoc hcode
  have hls2:=zk8 T1
  obtain ⟨gl,ol,hla,hgl0,hgl1⟩:=IL.out.smp2 0 (by omega)
  subst hla
  have hgl:q+1≤gl:=(IL.out.own rfl).1
  clear hgl0 hgl1
  go_loopw [6] (fun i wr=>∃(j:Nat) (E:EgR),i=.int .i64 j∧j≤5∧(1≤j∨E.K≠[])∧E.T=T1∧D14 B a0 len cap b w wr q E∧IV wr (q+1) (.slice (some ⟨gl,ol,none⟩) (zbj T1).length lc) (zbj T1)) (fun i _=>(intOf i).toNat)
  case atStart=>exact ⟨(1+x6).toNat,E,by rw [Int.toNat_of_nonneg (by omega)],by omega,.inl (by omega),hT1,D6.out,IL.out⟩
  case round =>
   clear D6 IL hT1
   obtain ⟨j,E,rfl,hj,hjk,hT1,d,il⟩:=hrel
   have D:Hid (D14 B a0 len cap b w wr q E):=d
   clear d
   cases j with
   | succ j =>
    have hj0:(0:Int)<(j:Int)+1:=by omega
    have hjw:IntKind.i64.wrap (j:Int)=(j:Int):=by rw [IntKind.wrap_i64];omega
    have hL0:1≤E.L.length:=D.out.ok.l0
    have hL1:E.L.length≤10:=D.out.ok.l1
    have IL:Hid (IV wr (q+1) (.slice (some ⟨gl,ol,none⟩) (zbj T1).length lc) (zbj T1)):=il
    have HLC:Hid (∀i (h:i<(zbj T1).length),wr.cell? ⟨gl,ol+i,none⟩=some (.int .i64 (zbj T1)[i])):=fun i h=>by
     obtain ⟨b',off',e,_,c⟩:=il.smp2 i h
     injection e with e
     injection e with e1 e2
     subst e1 e2
     exact c
    have HGZ:Hid (q<gl∧gl<wr.heap.size∧b<q):=⟨by omega,(il.own rfl).2,by have:=D.out.lt;have:=D.out.oq;omega⟩
    have HLF:Hid (∀i (h:i<(zbj T1).length),zmh E.T (zbj T1)[i]=true):=fun i h=>by rw [hT1];exact zse hcode _ (List.getElem_mem h)
    have HT1:Hid (E.T=T1):=hT1
    clear il hT1 hjk
    go_upto_region 8 with (fail)
    have HS:Hid (∀w',D14 B a0 len cap b w w' q E→(∀j:Nat,w'.cell? ⟨gl,j,none⟩=wr.cell? ⟨gl,j,none⟩)→(fun w'=>(w'.cell? ⟨q,0,none⟩=some (.int .i64 E.now)∧w'.cell? ⟨q,1,none⟩=some (.slice E.aT E.T.length E.cT)∧w'.cell? ⟨q,2,none⟩=some (.slice E.aO E.O.length E.cO)∧w'.cell? ⟨q,3,none⟩=some (.slice E.aP E.P.length E.cP)∧w'.cell? ⟨q,4,none⟩=some (.slice E.aL E.L.length E.cL)∧w'.cell? ⟨q,5,none⟩=some (.slice E.aK E.K.length E.cK)∧w'.cell? ⟨q,6,none⟩=some (.int .i64 E.nx))∧∀j:Nat,w'.cell? ⟨gl,j,none⟩=wr.cell? ⟨gl,j,none⟩) w'):=fun w' d h=>⟨d.var.c7,h⟩
    have DR:Hid (D14 B a0 len cap b w wr.drew q E):=D.out.next (Below.refl _ _).drew
    have OB:Hid (Only b wr wr.drew):=Only.of_below (Below.refl _ _).drew
    refine zzo 22 HS DR.out (fun _=>rfl) fun hS=>?_
    refine zeh 0 rfl ?_
    try simp only [nrm]
    refine za6 1 rfl ?_
    try simp only [nrm]
    refine za6 3 rfl ?_
    try simp only [nrm]
    refine za6 4 rfl ?_
    try simp only [nrm]
    refine za6 5 rfl ?_
    try simp only [nrm]
    refine za6 6 rfl ?_
    try simp only [nrm]
    refine za6 10 rfl ?_
    try simp only [nrm]
    refine za6 11 rfl ?_
    try simp only [nrm]
    refine zeh 12 rfl ?_
    try simp only [nrm]
    refine za6 13 rfl ?_
    try simp only [nrm]
    refine za6 15 rfl ?_
    try simp only [nrm]
    refine zev 2 rfl fun Kr hKr=>?_
    go_simp
    (refine (zat 9 DR.out.cur (Only.refl _ _) (by omega) (by omega)).mono ?_;rintro e u1 ⟨m1,rfl,hm1,kk,oo⟩;have DR:Hid (D14 B a0 len cap b w u1 q E):=DR.out.draw oo kk;have OB:Hid (Only b wr u1):=OB.out.trans oo;have hS:=HS.out _ DR.out (fun j=>OB.out.cell (p:=⟨gl,j,none⟩) (by have:=HGZ.out;show gl<_;omega) (by have:=HGZ.out;show gl≠b;omega)))
    refine hKr.out _ _ ‹_› fun _=>?_
    try simp only [nrm]
    refine zev 7 rfl fun Kr hKr=>?_
    go_simp
    (refine (zat ((zbj T1).length:Int) DR.out.cur (Only.refl _ _) (by omega) (by omega)).mono ?_;rintro e u2 ⟨m2,rfl,hm2,kk,oo⟩;have DR:Hid (D14 B a0 len cap b w u2 q E):=DR.out.draw oo kk;have OB:Hid (Only b wr u2):=OB.out.trans oo;have hS:=HS.out _ DR.out (fun j=>OB.out.cell (p:=⟨gl,j,none⟩) (by have:=HGZ.out;show gl<_;omega) (by have:=HGZ.out;show gl≠b;omega));obtain ⟨i,hie⟩:∃i:Nat,m2=(i:Int):=⟨m2.toNat,by omega⟩;subst hie;have hi2:i<(zbj T1).length:=(by omega);have hi0:(0:Int)≤(i:Int):=(by omega);have hi3:(i:Int)<((zbj T1).length:Int):=(by omega);have ci:=HLC.out i hi2)
    refine hKr.out _ _ ‹_› fun _=>?_
    try simp only [nrm]
    refine za6 8 rfl ?_
    try simp only [nrm]
    refine z0l 9 (v:=.int .i64 (zbj T1)[i]) rfl ?_ ?_
    ·(intro w' hSw;(try dsimp only at hSw);(have c:=(hSw.2 (ol+i)).trans ci;go_simp))
    try simp only [nrm]
    refine zev 14 rfl fun Kr hKr=>?_
    go_simp
    (refine (zat (E.L.length:Int) DR.out.cur (Only.refl _ _) (by omega) (by omega)).mono ?_;rintro e u3 ⟨m3,rfl,hm3,kk,oo⟩;have DR:Hid (D14 B a0 len cap b w u3 q E):=DR.out.draw oo kk;have OB:Hid (Only b wr u3):=OB.out.trans oo;have hS:=HS.out _ DR.out (fun j=>OB.out.cell (p:=⟨gl,j,none⟩) (by have:=HGZ.out;show gl<_;omega) (by have:=HGZ.out;show gl≠b;omega)))
    refine hKr.out _ _ ‹_› fun _=>?_
    try simp only [nrm]
    refine zev 16 rfl fun Kr hKr=>?_
    go_simp
    (refine (zat 2 DR.out.cur (Only.refl _ _) (by omega) (by omega)).mono ?_;rintro e u4 ⟨m4,rfl,hm4,kk,oo⟩;have DR:Hid (D14 B a0 len cap b w u4 q E):=DR.out.draw oo kk;have OB:Hid (Only b wr u4):=OB.out.trans oo;have hS:=HS.out _ DR.out (fun j=>OB.out.cell (p:=⟨gl,j,none⟩) (by have:=HGZ.out;show gl<_;omega) (by have:=HGZ.out;show gl≠b;omega));have wm4:IntKind.i64.wrap (1+m4)=1+m4:=(by rw [IntKind.wrap_i64];omega))
    refine hKr.out _ _ ‹_› fun _=>?_
    try simp only [nrm]
    refine za6 17 rfl ?_
    try simp only [nrm]
    refine zev 18 rfl fun Kr hKr=>?_
    go_simp
    (obtain ⟨lo',hh',eo',hlo',hq'⟩:=DR.out.own;refine (dOpn E DR.out.ok eo' (id_9 hm1) (HLF.out i hi2) hm3 (con_kd hm4)).mono ?_;rintro e u5 ⟨E2,f2,rfl,ow2,ok2,hT2,hL2,hK2,hb5⟩;have zu:=DR.out.big;have D5:Hid (D14 B a0 len cap b w u5 q E):=DR.out.next hb5;have OW2:Hid (E2.own u5 u4.heap.size u5.heap.size):=ow2;have HQ5:Hid (q<u4.heap.size∧w.heap.size<q):=⟨zu,DR.out.oq⟩;have B5:Hid (Below u4.heap.size u4 u5):=hb5;have hS:=HS.out _ D5.out (fun j=>(B5.out.cell (p:=⟨gl,j,none⟩) (by have:=HGZ.out;have:=OB.out.size;show gl<_;omega)).trans ((fun j=>OB.out.cell (p:=⟨gl,j,none⟩) (by have:=HGZ.out;show gl<_;omega) (by have:=HGZ.out;show gl≠b;omega)) j));obtain ⟨z0,z1,z2,z3,z4,z5,z6⟩:=D5.out.var.c7;have zf:=D5.out.var.free;have HT2:Hid (E2.T=E.T):=hT2;have HK2:Hid (E2.K≠[]):=hK2;clear hT2 hL2 hK2 ow2 hb5 eo' hlo' hq')
    refine hKr.out _ _ ‹_› fun _=>?_
    try simp only [nrm]
    refine za6 19 rfl ?_
    try simp only [nrm]
    refine za6 20 rfl ?_
    try simp only [nrm]
    refine za6 21 rfl ?_
    try simp only [nrm]
    refine zku rfl fun Kr hKr=>?_
    go_simp
    refine hKr.out _ _ ?_
    try simp only [nrm]
    obtain ⟨y,hy',oy,ly⟩:=st7 (b:=q) D5.out.var (.int .i64 E2.now) (.slice E2.aT E2.T.length E2.cT) (.slice E2.aO E2.O.length E2.cO) (.slice E2.aP E2.P.length E2.cP) (.slice E2.aL E2.L.length E2.cL) (.slice E2.aK E2.K.length E2.cK) (.int .i64 E2.nx)
    rw [hy']
    clear hy'
    clear z0 z1 z2 z3 z4 z5 z6 zf
    have DY:Hid (D14 B a0 len cap b w y q E2):=D5.out.store E2 OW2.out (by have:=HQ5.out;omega) (.inl (by have:=HQ5.out;omega)) ok2 oy ly
    have IY:Hid (IV y (q+1) (.slice (some ⟨gl,ol,none⟩) (zbj T1).length lc) (zbj T1)):=((IL.out.only14 OB.out (by have:=HGZ.out;omega)).next B5.out).only14 oy (by omega)
    go_wp2
    go_roundw
    case rel=>exact ⟨j,E2,by go_num,by omega,.inr HK2.out,HT2.out.trans HT1.out,DY.out,IY.out⟩
    case measure=>simp [intOf]<;>omega
   | zero =>
    have hkn:E.K≠[]:=hjk.resolve_left (by omega)
    clear il hT1 hjk hls hls2 hgl hcode HTL HQ
    go_wp2_with (first|(go_at_call 35;refine (zat _ D.out.cur (Only.refl _ _) (by omega) (by omega)).mono ?_;rintro e w7 ⟨x7,rfl,hx7,k7,o7⟩;have D7:Hid (D14 B a0 len cap b w w7 q E):=D.out.draw o7 k7;clear k7 o7))
    go_loopw [7] (fun i wr=>∃(j:Nat) (E:EgR),i=.int .i64 j∧j≤24∧E.K≠[]∧D14 B a0 len cap b w wr q E) (fun i _=>(intOf i).toNat)
    case atStart=>exact ⟨x7.toNat,E,by rw [Int.toNat_of_nonneg (by omega)],by omega,hkn,D7.out⟩
    case round =>
     clear D7 hkn
     obtain ⟨j,E,rfl,hj,hkn,d⟩:=hrel
     have D:Hid (D14 B a0 len cap b w wr q E):=d
     have HKN:Hid (E.K≠[]):=hkn
     clear d
     cases j with
     | succ j =>
      have hj0:(0:Int)<(j:Int)+1:=by omega
      have hjw:IntKind.i64.wrap (j:Int)=(j:Int):=by rw [IntKind.wrap_i64];omega
      have hk0:1≤E.K.length:=List.length_pos_iff.2 hkn
      have hk40:E.K.length≤40:=D.out.ok.k1
      obtain ⟨gk,hak,hgk,HCX⟩:=D.out.conns hk0
      have HC:Hid (∀i (h:i<E.K.length),wr.cell? ⟨gk,i*14,none⟩=some (.int .i64 E.K[i].id)∧wr.cell? ⟨gk,i*14+1,none⟩=some (.int .i64 E.K[i].lf)∧wr.cell? ⟨gk,i*14+2,none⟩=some (.int .i64 E.K[i].pl)∧wr.cell? ⟨gk,i*14+3,none⟩=some (.int .i64 E.K[i].k)∧wr.cell? ⟨gk,i*14+4,none⟩=some (.int .i64 E.K[i].wn)∧wr.cell? ⟨gk,i*14+5,none⟩=some (.int .i64 E.K[i].th)∧wr.cell? ⟨gk,i*14+6,none⟩=some (.int .i64 E.K[i].fl)∧wr.cell? ⟨gk,i*14+7,none⟩=some (.int .i64 E.K[i].ac)∧wr.cell? ⟨gk,i*14+8,none⟩=some (.int .i64 E.K[i].la)∧wr.cell? ⟨gk,i*14+9,none⟩=some (.int .i64 E.K[i].og)∧wr.cell? ⟨gk,i*14+10,none⟩=some (.int .i64 E.K[i].st)∧wr.cell? ⟨gk,i*14+11,none⟩=some (.int .i64 E.K[i].fr)∧wr.cell? ⟨gk,i*14+12,none⟩=some (.bool E.K[i].sl)∧∃sa sc,wr.cell? ⟨gk,i*14+13,none⟩=some (.slice sa E.K[i].xs.length sc)):=HCX
      have HGK:Hid (gk<wr.heap.size∧gk≠b):=⟨hgk.2,by have:=D.out.lt;omega⟩
      have HFL:Hid (∀i (h:i<E.K.length),0≤E.K[i].fl∧E.K[i].fl≤1000000000):=fun i h=>zyf (D.out.ok.con i h)
      have HS:Hid (∀w',D14 B a0 len cap b w w' q E→(∀j:Nat,w'.cell? ⟨gk,j,none⟩=wr.cell? ⟨gk,j,none⟩)→(fun w'=>w'.cell? ⟨q,5,none⟩=some (.slice (some ⟨gk,0,none⟩) E.K.length E.cK)∧∀j:Nat,w'.cell? ⟨gk,j,none⟩=wr.cell? ⟨gk,j,none⟩) w'):=fun w' d h=>⟨by have c:=d.var.cell 5 _ rfl;rw [hak] at c;exact c,h⟩
      clear HCX hkn hgk
      go_upto_region 12 with (fail)
      go_cut [8] from 65 to 73 (fun z wd=>∃(kq:Nat) (id fl:Int),z=.pointer (some ⟨kq,0,none⟩)∧D14 B a0 len cap b w wd q E∧(q<kq∧kq<wd.heap.size)∧wd.cell? ⟨kq,0,none⟩=some (.int .i64 id)∧wd.cell? ⟨kq,6,none⟩=some (.int .i64 fl)∧(0≤fl∧fl≤1000000000))
      case first =>
       have DR:Hid (D14 B a0 len cap b w wr.drew q E):=D.out.next (Below.refl _ _).drew
       have OB:Hid (Only b wr wr.drew):=Only.of_below (Below.refl _ _).drew
       refine zzo 10 HS DR.out (fun _=>rfl) fun hS=>?_
       refine za6 0 rfl ?_
       try simp only [nrm]
       refine zeh 1 rfl ?_
       try simp only [nrm]
       refine za6 2 rfl ?_
       try simp only [nrm]
       refine za6 3 rfl ?_
       try simp only [nrm]
       refine zeh 4 rfl ?_
       try simp only [nrm]
       refine za6 5 rfl ?_
       try simp only [nrm]
       refine tillT 6 9 rfl rfl (fun Kr hKr=>?_) (fun Kr hKr=>?_)
       ·go_simp
        (refine (zat (E.K.length:Int) DR.out.cur (Only.refl _ _) (by omega) (by omega)).mono ?_;rintro e u1 ⟨m1,rfl,hm1,kk,oo⟩;have DR:Hid (D14 B a0 len cap b w u1 q E):=DR.out.draw oo kk;have OB:Hid (Only b wr u1):=OB.out.trans oo;have hS:=HS.out _ DR.out (fun j=>OB.out.cell (p:=⟨gk,j,none⟩) (by have:=HGK.out;show gk<_;omega) (by have:=HGK.out;show gk≠b;omega));obtain ⟨i,hie⟩:∃i:Nat,m1=(i:Int):=⟨m1.toNat,by omega⟩;subst hie;have hi2:i<E.K.length:=(by omega);have hi0:(0:Int)≤(i:Int):=(by omega);have hi3:(i:Int)<(E.K.length:Int):=(by omega);obtain ⟨c0,c1,c2,c3,c4,c5,c6,c7,c8,c9,c10,c11,c12,sa,sc,c13⟩:=HC.out i hi2)
        refine hKr.out _ _ ‹_› fun _=>?_
        try simp only [nrm]
        refine za6 7 rfl ?_
        try simp only [nrm]
        refine z0l 8 (v:=.agg #[.int .i64 E.K[i].id,.int .i64 E.K[i].lf,.int .i64 E.K[i].pl,.int .i64 E.K[i].k,.int .i64 E.K[i].wn,.int .i64 E.K[i].th,.int .i64 E.K[i].fl,.int .i64 E.K[i].ac,.int .i64 E.K[i].la,.int .i64 E.K[i].og,.int .i64 E.K[i].st,.int .i64 E.K[i].fr,.bool E.K[i].sl,.slice sa E.K[i].xs.length sc]) rfl ?_ ?_
        ·(intro w' hSw;(try dsimp only at hSw);(have d0:=(hSw.2 _).trans c0;have d1:=(hSw.2 _).trans c1;have d2:=(hSw.2 _).trans c2;have d3:=(hSw.2 _).trans c3;have d4:=(hSw.2 _).trans c4;have d5:=(hSw.2 _).trans c5;have d6:=(hSw.2 _).trans c6;have d7:=(hSw.2 _).trans c7;have d8:=(hSw.2 _).trans c8;have d9:=(hSw.2 _).trans c9;have d10:=(hSw.2 _).trans c10;have d11:=(hSw.2 _).trans c11;have d12:=(hSw.2 _).trans c12;have d13:=(hSw.2 _).trans c13;go_simp))
        try simp only [nrm]
        refine zev 9 rfl fun Kr hKr=>?_
        go_simp
        refine hKr.out _ _ (HS.out _ (DR.out.next (zac _ _)) (fun j=>((zac _ _).cell (p:=⟨gk,j,none⟩) (by have:=HGK.out;have:=OB.out.size;show gk<_;omega)).trans ((fun j=>OB.out.cell (p:=⟨gk,j,none⟩) (by have:=HGK.out;show gk<_;omega) (by have:=HGK.out;show gk≠b;omega)) j))) (fun hS=>?_)
        try simp only [nrm]
        refine zku rfl fun Kr hKr=>?_
        go_simp
        refine hKr.out _ _ ?_
        try simp only [nrm]
        obtain ⟨y,hy⟩:∃y,y=u1.alloc (.cells #[.int .i64 E.K[i].id,.int .i64 E.K[i].lf,.int .i64 E.K[i].pl,.int .i64 E.K[i].k,.int .i64 E.K[i].wn,.int .i64 E.K[i].th,.int .i64 E.K[i].fl,.int .i64 E.K[i].ac,.int .i64 E.K[i].la,.int .i64 E.K[i].og,.int .i64 E.K[i].st,.int .i64 E.K[i].fr,.bool E.K[i].sl,.slice sa E.K[i].xs.length sc] 47):=⟨_,rfl⟩
        rw [←hy]
        have by0:Below u1.heap.size u1 y:=by rw [hy];exact zac _ _
        have LK:Lay y u1.heap.size [.int .i64 E.K[i].id,.int .i64 E.K[i].lf,.int .i64 E.K[i].pl,.int .i64 E.K[i].k,.int .i64 E.K[i].wn,.int .i64 E.K[i].th,.int .i64 E.K[i].fl,.int .i64 E.K[i].ac,.int .i64 E.K[i].la,.int .i64 E.K[i].og,.int .i64 E.K[i].st,.int .i64 E.K[i].fr,.bool E.K[i].sl,.slice sa E.K[i].xs.length sc]:=by rw [hy];exact zbs _ _ rfl
        clear hy
        go_wp2
        go_meet
        exact ⟨u1.heap.size,_,_,rfl,DR.out.next by0,⟨DR.out.big,LK.lt⟩,LK.cell 0 _ rfl,LK.cell 6 _ rfl,HFL.out i hi2⟩
       ·go_simp
        obtain ⟨g5,hg5⟩:∃g,g=wr.heap.size:=⟨_,rfl⟩
        obtain ⟨u0,hu0⟩:∃u,u=(wr.alloc (.cells #[.int .i64 0,.int .i64 0,.int .i64 0,.int .i64 0,.int .i64 0,.int .i64 0,.int .i64 0,.int .i64 0,.int .i64 0,.int .i64 0,.int .i64 0,.int .i64 0,.bool false,.slice none 0 0] 47)).drew:=⟨_,rfl⟩
        rw [←hu0,←hg5]
        have b0:Below wr.heap.size wr u0:=by rw [hu0];exact (zac _ _).drew
        have XV:Hid (Lay u0 g5 [.int .i64 0,.int .i64 0,.int .i64 0,.int .i64 0,.int .i64 0,.int .i64 0,.int .i64 0,.int .i64 0,.int .i64 0,.int .i64 0,.int .i64 0,.int .i64 0,.bool false,.slice none 0 0]):=by rw [hu0];exact (zbs _ _ hg5).next (Below.refl _ _).drew
        have HG5:Hid (g5=wr.heap.size):=hg5
        clear hu0 hg5
        have DR:Hid (D14 B a0 len cap b w u0 q E):=D.out.next b0
        have OB:Hid (Only b wr u0):=Only.of_below b0
        refine hKr.out _ _ (HS.out _ DR.out (fun j=>OB.out.cell (p:=⟨gk,j,none⟩) (by have:=HGK.out;show gk<_;omega) (by have:=HGK.out;show gk≠b;omega))) (fun hS=>?_)
        try simp only [nrm]
        refine zev 6 rfl fun Kr hKr=>?_
        go_simp
        (refine (zat (E.K.length:Int) DR.out.cur (Only.refl _ _) (by omega) (by omega)).mono ?_;rintro e u1 ⟨m1,rfl,hm1,kk,oo⟩;have DR:Hid (D14 B a0 len cap b w u1 q E):=DR.out.draw oo kk;have OB:Hid (Only b wr u1):=OB.out.trans oo;have hS:=HS.out _ DR.out (fun j=>OB.out.cell (p:=⟨gk,j,none⟩) (by have:=HGK.out;show gk<_;omega) (by have:=HGK.out;show gk≠b;omega));obtain ⟨i,hie⟩:∃i:Nat,m1=(i:Int):=⟨m1.toNat,by omega⟩;subst hie;have hi2:i<E.K.length:=(by omega);have hi0:(0:Int)≤(i:Int):=(by omega);have hi3:(i:Int)<(E.K.length:Int):=(by omega);obtain ⟨c0,c1,c2,c3,c4,c5,c6,c7,c8,c9,c10,c11,c12,sa,sc,c13⟩:=HC.out i hi2;have XV:Hid (Lay u1 g5 [.int .i64 0,.int .i64 0,.int .i64 0,.int .i64 0,.int .i64 0,.int .i64 0,.int .i64 0,.int .i64 0,.int .i64 0,.int .i64 0,.int .i64 0,.int .i64 0,.bool false,.slice none 0 0]):=XV.out.only oo (by have:=D.out.lt;have:=D.out.oq;have:=D.out.big;have:=HG5.out;omega);obtain ⟨x0,x1,x2,x3,x4,x5,x6,x7,x8,x9,x10,x11,x12,x13⟩:=XV.out.c14;have xf:=XV.out.free)
        refine hKr.out _ _ ‹_› fun _=>?_
        try simp only [nrm]
        refine za6 7 rfl ?_
        try simp only [nrm]
        refine z0l 8 (v:=.agg #[.int .i64 E.K[i].id,.int .i64 E.K[i].lf,.int .i64 E.K[i].pl,.int .i64 E.K[i].k,.int .i64 E.K[i].wn,.int .i64 E.K[i].th,.int .i64 E.K[i].fl,.int .i64 E.K[i].ac,.int .i64 E.K[i].la,.int .i64 E.K[i].og,.int .i64 E.K[i].st,.int .i64 E.K[i].fr,.bool E.K[i].sl,.slice sa E.K[i].xs.length sc]) rfl ?_ ?_
        ·(intro w' hSw;(try dsimp only at hSw);(have d0:=(hSw.2 _).trans c0;have d1:=(hSw.2 _).trans c1;have d2:=(hSw.2 _).trans c2;have d3:=(hSw.2 _).trans c3;have d4:=(hSw.2 _).trans c4;have d5:=(hSw.2 _).trans c5;have d6:=(hSw.2 _).trans c6;have d7:=(hSw.2 _).trans c7;have d8:=(hSw.2 _).trans c8;have d9:=(hSw.2 _).trans c9;have d10:=(hSw.2 _).trans c10;have d11:=(hSw.2 _).trans c11;have d12:=(hSw.2 _).trans c12;have d13:=(hSw.2 _).trans c13;go_simp))
        try simp only [nrm]
        refine zku rfl fun Kr hKr=>?_
        go_simp
        refine hKr.out _ _ ?_
        try simp only [nrm]
        obtain ⟨y,hy⟩:∃y,y=u1.setCells g5 0 [.int .i64 E.K[i].id,.int .i64 E.K[i].lf,.int .i64 E.K[i].pl,.int .i64 E.K[i].k,.int .i64 E.K[i].wn,.int .i64 E.K[i].th,.int .i64 E.K[i].fl,.int .i64 E.K[i].ac,.int .i64 E.K[i].la,.int .i64 E.K[i].og,.int .i64 E.K[i].st,.int .i64 E.K[i].fr,.bool E.K[i].sl,.slice sa E.K[i].xs.length sc]:=⟨_,rfl⟩
        have hy':((((((((((((((u1.setCell ⟨g5,0,none⟩ (.int .i64 E.K[i].id)).setCell ⟨g5,1,none⟩ (.int .i64 E.K[i].lf)).setCell ⟨g5,2,none⟩ (.int .i64 E.K[i].pl)).setCell ⟨g5,3,none⟩ (.int .i64 E.K[i].k)).setCell ⟨g5,4,none⟩ (.int .i64 E.K[i].wn)).setCell ⟨g5,5,none⟩ (.int .i64 E.K[i].th)).setCell ⟨g5,6,none⟩ (.int .i64 E.K[i].fl)).setCell ⟨g5,7,none⟩ (.int .i64 E.K[i].ac)).setCell ⟨g5,8,none⟩ (.int .i64 E.K[i].la)).setCell ⟨g5,9,none⟩ (.int .i64 E.K[i].og)).setCell ⟨g5,10,none⟩ (.int .i64 E.K[i].st)).setCell ⟨g5,11,none⟩ (.int .i64 E.K[i].fr)).setCell ⟨g5,12,none⟩ (.bool E.K[i].sl)).setCell ⟨g5,13,none⟩ (.slice sa E.K[i].xs.length sc))=y:=hy.symm
        rw [hy']
        clear hy'
        have oy:Only g5 u1 y:=by rw [hy];exact zba _ _ _
        have LK:Lay y g5 [.int .i64 E.K[i].id,.int .i64 E.K[i].lf,.int .i64 E.K[i].pl,.int .i64 E.K[i].k,.int .i64 E.K[i].wn,.int .i64 E.K[i].th,.int .i64 E.K[i].fl,.int .i64 E.K[i].ac,.int .i64 E.K[i].la,.int .i64 E.K[i].og,.int .i64 E.K[i].st,.int .i64 E.K[i].fr,.bool E.K[i].sl,.slice sa E.K[i].xs.length sc]:=by rw [hy];exact XV.out.put (p:=[]) (q:=[.int .i64 0,.int .i64 0,.int .i64 0,.int .i64 0,.int .i64 0,.int .i64 0,.int .i64 0,.int .i64 0,.int .i64 0,.int .i64 0,.int .i64 0,.int .i64 0,.bool false,.slice none 0 0]) (r:=[]) [.int .i64 E.K[i].id,.int .i64 E.K[i].lf,.int .i64 E.K[i].pl,.int .i64 E.K[i].k,.int .i64 E.K[i].wn,.int .i64 E.K[i].th,.int .i64 E.K[i].fl,.int .i64 E.K[i].ac,.int .i64 E.K[i].la,.int .i64 E.K[i].og,.int .i64 E.K[i].st,.int .i64 E.K[i].fr,.bool E.K[i].sl,.slice sa E.K[i].xs.length sc] rfl
        clear hy
        have hq5:q<g5:=by have:=D.out.big;have:=HG5.out;omega
        have zy:=oy.size
        go_wp2
        go_meet
        exact ⟨g5,_,_,rfl,DR.out.far oy hq5 (by have:=HG5.out;obtain ⟨lo,hh,e,h1,h2⟩:=D.out.own;exact ⟨lo,hh,e,h1,h2,by omega⟩) OB.out,⟨hq5,LK.lt⟩,LK.cell 0 _ rfl,LK.cell 6 _ rfl,HFL.out i hi2⟩
      case rest =>
      obtain ⟨kq,id,fl,rfl,d,hkz,hk0',hk6,hfl⟩:=hcut
      clear HS HC HGK HFL hak D hk0 hk40
      have D:Hid (D14 B a0 len cap b w wc q E):=d
      clear d
      go_upto_region 14 with (first|(go_at_call 35;refine (zat _ D.out.cur (Only.refl _ _) (by omega) (by omega)).mono ?_;rintro e W ⟨x9,rfl,hx9',k9,o9⟩;have D:Hid (D14 B a0 len cap b w W q E):=D.out.draw o9 k9;have hbq:b<kq:=(by have:=D.out.lt;have:=D.out.oq;omega);have hk0':=(o9.cell (p:=⟨kq,0,none⟩) (by show kq<_;omega) (by show kq≠b;omega)).trans hk0';have hk6:=(o9.cell (p:=⟨kq,6,none⟩) (by show kq<_;omega) (by show kq≠b;omega)).trans hk6;have hkz:q<kq∧kq<W.heap.size:=⟨hkz.1,Nat.lt_of_lt_of_le hkz.2 o9.size⟩;clear k9 o9))
      have KQ:Hid (W.cell? ⟨kq,0,none⟩=some (.int .i64 id)∧W.cell? ⟨kq,6,none⟩=some (.int .i64 fl)):=⟨hk0',hk6⟩
      have HKZ:Hid (q<kq∧kq<W.heap.size∧b<q):=⟨hkz.1,hkz.2,by have:=D.out.lt;have:=D.out.oq;omega⟩
      have HS:Hid (∀w',D14 B a0 len cap b w w' q E→w'.cell? ⟨kq,0,none⟩=some (.int .i64 id)→w'.cell? ⟨kq,6,none⟩=some (.int .i64 fl)→(fun w'=>(w'.cell? ⟨q,0,none⟩=some (.int .i64 E.now)∧w'.cell? ⟨q,1,none⟩=some (.slice E.aT E.T.length E.cT)∧w'.cell? ⟨q,2,none⟩=some (.slice E.aO E.O.length E.cO)∧w'.cell? ⟨q,3,none⟩=some (.slice E.aP E.P.length E.cP)∧w'.cell? ⟨q,4,none⟩=some (.slice E.aL E.L.length E.cL)∧w'.cell? ⟨q,5,none⟩=some (.slice E.aK E.K.length E.cK)∧w'.cell? ⟨q,6,none⟩=some (.int .i64 E.nx))∧w'.cell? ⟨kq,0,none⟩=some (.int .i64 id)∧w'.cell? ⟨kq,6,none⟩=some (.int .i64 fl)) w'):=fun w' d h1 h2=>⟨d.var.c7,h1,h2⟩
      have DR:Hid (D14 B a0 len cap b w W.drew q E):=D.out.next (Below.refl _ _).drew
      have OB:Hid (Only b W W.drew):=Only.of_below (Below.refl _ _).drew
      have HKF:Hid True:=trivial
      clear hk0' hk6 hkz
      have hx9:x9=0∨x9=1∨x9=2∨x9=3∨x9=4∨x9=5∨x9=6∨x9=7∨x9=8:=by omega
      clear hx9'
      rcases hx9 with rfl|rfl|rfl|rfl|rfl|rfl|rfl|rfl|rfl
      ·clear HKF
       go_upto_region 17 with (fail)
       refine zmr 10 HS (D.out.next (Below.refl _ _).drew) KQ.out.1 KQ.out.2 fun hS=>?_
       refine zeh 0 rfl ?_
       try simp only [nrm]
       refine za6 1 rfl ?_
       try simp only [nrm]
       refine zeh 2 rfl ?_
       try simp only [nrm]
       refine za6 3 rfl ?_
       try simp only [nrm]
       refine zev 4 rfl fun Kr hKr=>?_
       go_simp
       (refine (zat 1500 DR.out.cur (Only.refl _ _) (by omega) (by omega)).mono ?_;rintro e u1 ⟨m1,rfl,hm1,kk,oo⟩;have DR:Hid (D14 B a0 len cap b w u1 q E):=DR.out.draw oo kk;have OB:Hid (Only b W u1):=OB.out.trans oo;have hS:=HS.out _ DR.out ((OB.out.cell (p:=⟨kq,0,none⟩) (by have:=HKZ.out;show kq<_;omega) (by have:=HKZ.out;show kq≠b;omega)).trans KQ.out.1) ((OB.out.cell (p:=⟨kq,6,none⟩) (by have:=HKZ.out;show kq<_;omega) (by have:=HKZ.out;show kq≠b;omega)).trans KQ.out.2);have wm1:IntKind.i64.wrap (1+m1)=1+m1:=(by rw [IntKind.wrap_i64];omega))
       refine hKr.out _ _ ‹_› fun _=>?_
       try simp only [nrm]
       refine za6 5 rfl ?_
       try simp only [nrm]
       refine zev 6 rfl fun Kr hKr=>?_
       go_simp
       (obtain ⟨lo',hh',eo',hlo',hq'⟩:=DR.out.own;refine (dSub E DR.out.ok eo' id (1+m1)).mono ?_;rintro e u5 ⟨E2,f2,rfl,ow2,ok2,hT2,hK2,hb5⟩;have zu:=DR.out.big;have D5:Hid (D14 B a0 len cap b w u5 q E):=DR.out.next hb5;have OW2:Hid (E2.own u5 u1.heap.size u5.heap.size):=ow2;have HQ5:Hid (q<u1.heap.size∧w.heap.size<q):=⟨zu,DR.out.oq⟩;have B5:Hid (Below u1.heap.size u1 u5):=hb5;have hS:=HS.out _ D5.out ((B5.out.cell (p:=⟨kq,0,none⟩) (by have:=HKZ.out;have:=OB.out.size;show kq<_;omega)).trans ((OB.out.cell (p:=⟨kq,0,none⟩) (by have:=HKZ.out;show kq<_;omega) (by have:=HKZ.out;show kq≠b;omega)).trans KQ.out.1)) ((B5.out.cell (p:=⟨kq,6,none⟩) (by have:=HKZ.out;have:=OB.out.size;show kq<_;omega)).trans ((OB.out.cell (p:=⟨kq,6,none⟩) (by have:=HKZ.out;show kq<_;omega) (by have:=HKZ.out;show kq≠b;omega)).trans KQ.out.2));obtain ⟨z0,z1,z2,z3,z4,z5,z6⟩:=D5.out.var.c7;have zf:=D5.out.var.free;have HK2:Hid (E.K≠[]→E2.K≠[]):=hK2;clear hT2 hK2 ow2 hb5 eo' hlo' hq')
       refine hKr.out _ _ ‹_› fun _=>?_
       try simp only [nrm]
       refine za6 7 rfl ?_
       try simp only [nrm]
       refine za6 8 rfl ?_
       try simp only [nrm]
       refine za6 9 rfl ?_
       try simp only [nrm]
       refine zku rfl fun Kr hKr=>?_
       go_simp
       refine hKr.out _ _ ?_
       try simp only [nrm]
       obtain ⟨y,hy',oy,ly⟩:=st7 (b:=q) D5.out.var (.int .i64 E2.now) (.slice E2.aT E2.T.length E2.cT) (.slice E2.aO E2.O.length E2.cO) (.slice E2.aP E2.P.length E2.cP) (.slice E2.aL E2.L.length E2.cL) (.slice E2.aK E2.K.length E2.cK) (.int .i64 E2.nx)
       rw [hy']
       clear hy'
       clear z0 z1 z2 z3 z4 z5 z6 zf
       have DY:Hid (D14 B a0 len cap b w y q E2):=D5.out.store E2 OW2.out (by have:=HQ5.out;omega) (.inl (by have:=HQ5.out;omega)) ok2 oy ly
       go_wp2
       go_roundw
       case rel=>exact ⟨j,E2,by go_num,by omega,HK2.out HKN.out,DY.out⟩
       case measure=>simp [intOf]<;>omega
      ·clear HKF
       go_upto_region 17 with (fail)
       refine zmr 10 HS (D.out.next (Below.refl _ _).drew) KQ.out.1 KQ.out.2 fun hS=>?_
       refine zeh 0 rfl ?_
       try simp only [nrm]
       refine za6 1 rfl ?_
       try simp only [nrm]
       refine zeh 2 rfl ?_
       try simp only [nrm]
       refine za6 3 rfl ?_
       try simp only [nrm]
       refine zev 4 rfl fun Kr hKr=>?_
       go_simp
       (refine (zat 1500 DR.out.cur (Only.refl _ _) (by omega) (by omega)).mono ?_;rintro e u1 ⟨m1,rfl,hm1,kk,oo⟩;have DR:Hid (D14 B a0 len cap b w u1 q E):=DR.out.draw oo kk;have OB:Hid (Only b W u1):=OB.out.trans oo;have hS:=HS.out _ DR.out ((OB.out.cell (p:=⟨kq,0,none⟩) (by have:=HKZ.out;show kq<_;omega) (by have:=HKZ.out;show kq≠b;omega)).trans KQ.out.1) ((OB.out.cell (p:=⟨kq,6,none⟩) (by have:=HKZ.out;show kq<_;omega) (by have:=HKZ.out;show kq≠b;omega)).trans KQ.out.2);have wm1:IntKind.i64.wrap (1+m1)=1+m1:=(by rw [IntKind.wrap_i64];omega))
       refine hKr.out _ _ ‹_› fun _=>?_
       try simp only [nrm]
       refine za6 5 rfl ?_
       try simp only [nrm]
       refine zev 6 rfl fun Kr hKr=>?_
       go_simp
       (obtain ⟨lo',hh',eo',hlo',hq'⟩:=DR.out.own;refine (dSub E DR.out.ok eo' id (1+m1)).mono ?_;rintro e u5 ⟨E2,f2,rfl,ow2,ok2,hT2,hK2,hb5⟩;have zu:=DR.out.big;have D5:Hid (D14 B a0 len cap b w u5 q E):=DR.out.next hb5;have OW2:Hid (E2.own u5 u1.heap.size u5.heap.size):=ow2;have HQ5:Hid (q<u1.heap.size∧w.heap.size<q):=⟨zu,DR.out.oq⟩;have B5:Hid (Below u1.heap.size u1 u5):=hb5;have hS:=HS.out _ D5.out ((B5.out.cell (p:=⟨kq,0,none⟩) (by have:=HKZ.out;have:=OB.out.size;show kq<_;omega)).trans ((OB.out.cell (p:=⟨kq,0,none⟩) (by have:=HKZ.out;show kq<_;omega) (by have:=HKZ.out;show kq≠b;omega)).trans KQ.out.1)) ((B5.out.cell (p:=⟨kq,6,none⟩) (by have:=HKZ.out;have:=OB.out.size;show kq<_;omega)).trans ((OB.out.cell (p:=⟨kq,6,none⟩) (by have:=HKZ.out;show kq<_;omega) (by have:=HKZ.out;show kq≠b;omega)).trans KQ.out.2));obtain ⟨z0,z1,z2,z3,z4,z5,z6⟩:=D5.out.var.c7;have zf:=D5.out.var.free;have HK2:Hid (E.K≠[]→E2.K≠[]):=hK2;clear hT2 hK2 ow2 hb5 eo' hlo' hq')
       refine hKr.out _ _ ‹_› fun _=>?_
       try simp only [nrm]
       refine za6 7 rfl ?_
       try simp only [nrm]
       refine za6 8 rfl ?_
       try simp only [nrm]
       refine za6 9 rfl ?_
       try simp only [nrm]
       refine zku rfl fun Kr hKr=>?_
       go_simp
       refine hKr.out _ _ ?_
       try simp only [nrm]
       obtain ⟨y,hy',oy,ly⟩:=st7 (b:=q) D5.out.var (.int .i64 E2.now) (.slice E2.aT E2.T.length E2.cT) (.slice E2.aO E2.O.length E2.cO) (.slice E2.aP E2.P.length E2.cP) (.slice E2.aL E2.L.length E2.cL) (.slice E2.aK E2.K.length E2.cK) (.int .i64 E2.nx)
       rw [hy']
       clear hy'
       clear z0 z1 z2 z3 z4 z5 z6 zf
       have DY:Hid (D14 B a0 len cap b w y q E2):=D5.out.store E2 OW2.out (by have:=HQ5.out;omega) (.inl (by have:=HQ5.out;omega)) ok2 oy ly
       go_wp2
       go_roundw
       case rel=>exact ⟨j,E2,by go_num,by omega,HK2.out HKN.out,DY.out⟩
       case measure=>simp [intOf]<;>omega
      ·clear HKF
       go_upto_region 17 with (fail)
       refine zmr 10 HS (D.out.next (Below.refl _ _).drew) KQ.out.1 KQ.out.2 fun hS=>?_
       refine zeh 0 rfl ?_
       try simp only [nrm]
       refine za6 1 rfl ?_
       try simp only [nrm]
       refine zeh 2 rfl ?_
       try simp only [nrm]
       refine za6 3 rfl ?_
       try simp only [nrm]
       refine zev 4 rfl fun Kr hKr=>?_
       go_simp
       (refine (zat 1500 DR.out.cur (Only.refl _ _) (by omega) (by omega)).mono ?_;rintro e u1 ⟨m1,rfl,hm1,kk,oo⟩;have DR:Hid (D14 B a0 len cap b w u1 q E):=DR.out.draw oo kk;have OB:Hid (Only b W u1):=OB.out.trans oo;have hS:=HS.out _ DR.out ((OB.out.cell (p:=⟨kq,0,none⟩) (by have:=HKZ.out;show kq<_;omega) (by have:=HKZ.out;show kq≠b;omega)).trans KQ.out.1) ((OB.out.cell (p:=⟨kq,6,none⟩) (by have:=HKZ.out;show kq<_;omega) (by have:=HKZ.out;show kq≠b;omega)).trans KQ.out.2);have wm1:IntKind.i64.wrap (1+m1)=1+m1:=(by rw [IntKind.wrap_i64];omega))
       refine hKr.out _ _ ‹_› fun _=>?_
       try simp only [nrm]
       refine za6 5 rfl ?_
       try simp only [nrm]
       refine zev 6 rfl fun Kr hKr=>?_
       go_simp
       (obtain ⟨lo',hh',eo',hlo',hq'⟩:=DR.out.own;refine (dSub E DR.out.ok eo' id (1+m1)).mono ?_;rintro e u5 ⟨E2,f2,rfl,ow2,ok2,hT2,hK2,hb5⟩;have zu:=DR.out.big;have D5:Hid (D14 B a0 len cap b w u5 q E):=DR.out.next hb5;have OW2:Hid (E2.own u5 u1.heap.size u5.heap.size):=ow2;have HQ5:Hid (q<u1.heap.size∧w.heap.size<q):=⟨zu,DR.out.oq⟩;have B5:Hid (Below u1.heap.size u1 u5):=hb5;have hS:=HS.out _ D5.out ((B5.out.cell (p:=⟨kq,0,none⟩) (by have:=HKZ.out;have:=OB.out.size;show kq<_;omega)).trans ((OB.out.cell (p:=⟨kq,0,none⟩) (by have:=HKZ.out;show kq<_;omega) (by have:=HKZ.out;show kq≠b;omega)).trans KQ.out.1)) ((B5.out.cell (p:=⟨kq,6,none⟩) (by have:=HKZ.out;have:=OB.out.size;show kq<_;omega)).trans ((OB.out.cell (p:=⟨kq,6,none⟩) (by have:=HKZ.out;show kq<_;omega) (by have:=HKZ.out;show kq≠b;omega)).trans KQ.out.2));obtain ⟨z0,z1,z2,z3,z4,z5,z6⟩:=D5.out.var.c7;have zf:=D5.out.var.free;have HK2:Hid (E.K≠[]→E2.K≠[]):=hK2;clear hT2 hK2 ow2 hb5 eo' hlo' hq')
       refine hKr.out _ _ ‹_› fun _=>?_
       try simp only [nrm]
       refine za6 7 rfl ?_
       try simp only [nrm]
       refine za6 8 rfl ?_
       try simp only [nrm]
       refine za6 9 rfl ?_
       try simp only [nrm]
       refine zku rfl fun Kr hKr=>?_
       go_simp
       refine hKr.out _ _ ?_
       try simp only [nrm]
       obtain ⟨y,hy',oy,ly⟩:=st7 (b:=q) D5.out.var (.int .i64 E2.now) (.slice E2.aT E2.T.length E2.cT) (.slice E2.aO E2.O.length E2.cO) (.slice E2.aP E2.P.length E2.cP) (.slice E2.aL E2.L.length E2.cL) (.slice E2.aK E2.K.length E2.cK) (.int .i64 E2.nx)
       rw [hy']
       clear hy'
       clear z0 z1 z2 z3 z4 z5 z6 zf
       have DY:Hid (D14 B a0 len cap b w y q E2):=D5.out.store E2 OW2.out (by have:=HQ5.out;omega) (.inl (by have:=HQ5.out;omega)) ok2 oy ly
       go_wp2
       go_roundw
       case rel=>exact ⟨j,E2,by go_num,by omega,HK2.out HKN.out,DY.out⟩
       case measure=>simp [intOf]<;>omega
      ·obtain ⟨lo',hh',eo',hlo',hq'⟩:=D.out.own
       obtain ⟨t0,t1,t2,t3,t4,t5,t6⟩:=D.out.var.c7
       go_upto_region 11 with (first|(go_at_call 143;refine (zxu E D.out.ok eo').mono ?_;rintro e u5 ⟨E2,f2,g2,rfl,ow2,ok2,hT2,hK2,hb5⟩;have zu:=D.out.big;have D5:Hid (D14 B a0 len cap b w u5 q E):=D.out.next hb5;have OW2:Hid (E2.own u5 W.heap.size u5.heap.size):=ow2;have HQ5:Hid (q<W.heap.size∧w.heap.size<q):=⟨zu,D.out.oq⟩;obtain ⟨z0,z1,z2,z3,z4,z5,z6⟩:=D5.out.var.c7;have zf:=D5.out.var.free;have HK2:Hid (E.K≠[]→E2.K≠[]):=hK2;clear hT2 hK2 ow2 hb5))
       obtain ⟨y,hy',oy,ly⟩:=st7 (b:=q) D5.out.var (.int .i64 E2.now) (.slice E2.aT E2.T.length E2.cT) (.slice E2.aO E2.O.length E2.cO) (.slice E2.aP E2.P.length E2.cP) (.slice E2.aL E2.L.length E2.cL) (.slice E2.aK E2.K.length E2.cK) (.int .i64 E2.nx)
       rw [hy']
       clear hy'
       clear z0 z1 z2 z3 z4 z5 z6 zf
       have DY:Hid (D14 B a0 len cap b w y q E2):=D5.out.store E2 OW2.out (by have:=HQ5.out;omega) (.inl (by have:=HQ5.out;omega)) ok2 oy ly
       go_wp2
       go_roundw
       case rel=>exact ⟨j,E2,by go_num,by omega,HK2.out HKN.out,DY.out⟩
       case measure=>simp [intOf]<;>omega
      ·obtain ⟨lo',hh',eo',hlo',hq'⟩:=D.out.own
       obtain ⟨t0,t1,t2,t3,t4,t5,t6⟩:=D.out.var.c7
       go_upto_region 11 with (first|(go_at_call 143;refine (zxu E D.out.ok eo').mono ?_;rintro e u5 ⟨E2,f2,g2,rfl,ow2,ok2,hT2,hK2,hb5⟩;have zu:=D.out.big;have D5:Hid (D14 B a0 len cap b w u5 q E):=D.out.next hb5;have OW2:Hid (E2.own u5 W.heap.size u5.heap.size):=ow2;have HQ5:Hid (q<W.heap.size∧w.heap.size<q):=⟨zu,D.out.oq⟩;obtain ⟨z0,z1,z2,z3,z4,z5,z6⟩:=D5.out.var.c7;have zf:=D5.out.var.free;have HK2:Hid (E.K≠[]→E2.K≠[]):=hK2;clear hT2 hK2 ow2 hb5))
       obtain ⟨y,hy',oy,ly⟩:=st7 (b:=q) D5.out.var (.int .i64 E2.now) (.slice E2.aT E2.T.length E2.cT) (.slice E2.aO E2.O.length E2.cO) (.slice E2.aP E2.P.length E2.cP) (.slice E2.aL E2.L.length E2.cL) (.slice E2.aK E2.K.length E2.cK) (.int .i64 E2.nx)
       rw [hy']
       clear hy'
       clear z0 z1 z2 z3 z4 z5 z6 zf
       have DY:Hid (D14 B a0 len cap b w y q E2):=D5.out.store E2 OW2.out (by have:=HQ5.out;omega) (.inl (by have:=HQ5.out;omega)) ok2 oy ly
       go_wp2
       go_roundw
       case rel=>exact ⟨j,E2,by go_num,by omega,HK2.out HKN.out,DY.out⟩
       case measure=>simp [intOf]<;>omega
      ·obtain ⟨lo',hh',eo',hlo',hq'⟩:=D.out.own
       obtain ⟨t0,t1,t2,t3,t4,t5,t6⟩:=D.out.var.c7
       go_upto_region 11 with (first|(go_at_call 143;refine (zxu E D.out.ok eo').mono ?_;rintro e u5 ⟨E2,f2,g2,rfl,ow2,ok2,hT2,hK2,hb5⟩;have zu:=D.out.big;have D5:Hid (D14 B a0 len cap b w u5 q E):=D.out.next hb5;have OW2:Hid (E2.own u5 W.heap.size u5.heap.size):=ow2;have HQ5:Hid (q<W.heap.size∧w.heap.size<q):=⟨zu,D.out.oq⟩;obtain ⟨z0,z1,z2,z3,z4,z5,z6⟩:=D5.out.var.c7;have zf:=D5.out.var.free;have HK2:Hid (E.K≠[]→E2.K≠[]):=hK2;clear hT2 hK2 ow2 hb5))
       obtain ⟨y,hy',oy,ly⟩:=st7 (b:=q) D5.out.var (.int .i64 E2.now) (.slice E2.aT E2.T.length E2.cT) (.slice E2.aO E2.O.length E2.cO) (.slice E2.aP E2.P.length E2.cP) (.slice E2.aL E2.L.length E2.cL) (.slice E2.aK E2.K.length E2.cK) (.int .i64 E2.nx)
       rw [hy']
       clear hy'
       clear z0 z1 z2 z3 z4 z5 z6 zf
       have DY:Hid (D14 B a0 len cap b w y q E2):=D5.out.store E2 OW2.out (by have:=HQ5.out;omega) (.inl (by have:=HQ5.out;omega)) ok2 oy ly
       go_wp2
       go_roundw
       case rel=>exact ⟨j,E2,by go_num,by omega,HK2.out HKN.out,DY.out⟩
       case measure=>simp [intOf]<;>omega
      ·clear HKF
       go_upto_region 23 with (fail)
       refine zmr 14 HS (D.out.next (Below.refl _ _).drew) KQ.out.1 KQ.out.2 fun hS=>?_
       refine zeh 0 rfl ?_
       try simp only [nrm]
       refine za6 1 rfl ?_
       try simp only [nrm]
       refine zeh 2 rfl ?_
       try simp only [nrm]
       refine za6 3 rfl ?_
       try simp only [nrm]
       refine za6 4 rfl ?_
       try simp only [nrm]
       refine za6 5 rfl ?_
       try simp only [nrm]
       refine zeh 6 rfl ?_
       try simp only [nrm]
       refine zev 7 rfl fun Kr hKr=>?_
       go_simp
       (refine (zq5 _ _ _).mono ?_;rintro e w3 ⟨rfl,e3⟩;replace e3:=e3.symm;subst e3)
       refine hKr.out _ _ ‹_› fun _=>?_
       try simp only [nrm]
       refine zev 8 rfl fun Kr hKr=>?_
       go_simp
       (refine (zat (max 1 fl) DR.out.cur (Only.refl _ _) (by omega) (by omega)).mono ?_;rintro e u1 ⟨m1,rfl,hm1,kk,oo⟩;have DR:Hid (D14 B a0 len cap b w u1 q E):=DR.out.draw oo kk;have OB:Hid (Only b W u1):=OB.out.trans oo;have hS:=HS.out _ DR.out ((OB.out.cell (p:=⟨kq,0,none⟩) (by have:=HKZ.out;show kq<_;omega) (by have:=HKZ.out;show kq≠b;omega)).trans KQ.out.1) ((OB.out.cell (p:=⟨kq,6,none⟩) (by have:=HKZ.out;show kq<_;omega) (by have:=HKZ.out;show kq≠b;omega)).trans KQ.out.2);have wm1:IntKind.i64.wrap (1+m1)=1+m1:=(by rw [IntKind.wrap_i64];omega))
       refine hKr.out _ _ ‹_› fun _=>?_
       try simp only [nrm]
       refine za6 9 rfl ?_
       try simp only [nrm]
       refine zev 10 rfl fun Kr hKr=>?_
       go_simp
       (obtain ⟨lo',hh',eo',hlo',hq'⟩:=DR.out.own;refine (dAck E DR.out.ok eo' id (1+m1)).mono ?_;rintro e u5 ⟨E2,f2,rfl,ow2,ok2,hT2,hK2,hb5⟩;have zu:=DR.out.big;have D5:Hid (D14 B a0 len cap b w u5 q E):=DR.out.next hb5;have OW2:Hid (E2.own u5 u1.heap.size u5.heap.size):=ow2;have HQ5:Hid (q<u1.heap.size∧w.heap.size<q):=⟨zu,DR.out.oq⟩;have B5:Hid (Below u1.heap.size u1 u5):=hb5;have hS:=HS.out _ D5.out ((B5.out.cell (p:=⟨kq,0,none⟩) (by have:=HKZ.out;have:=OB.out.size;show kq<_;omega)).trans ((OB.out.cell (p:=⟨kq,0,none⟩) (by have:=HKZ.out;show kq<_;omega) (by have:=HKZ.out;show kq≠b;omega)).trans KQ.out.1)) ((B5.out.cell (p:=⟨kq,6,none⟩) (by have:=HKZ.out;have:=OB.out.size;show kq<_;omega)).trans ((OB.out.cell (p:=⟨kq,6,none⟩) (by have:=HKZ.out;show kq<_;omega) (by have:=HKZ.out;show kq≠b;omega)).trans KQ.out.2));obtain ⟨z0,z1,z2,z3,z4,z5,z6⟩:=D5.out.var.c7;have zf:=D5.out.var.free;have HK2:Hid (E.K≠[]→E2.K≠[]):=hK2;clear hT2 hK2 ow2 hb5 eo' hlo' hq')
       refine hKr.out _ _ ‹_› fun _=>?_
       try simp only [nrm]
       refine za6 11 rfl ?_
       try simp only [nrm]
       refine za6 12 rfl ?_
       try simp only [nrm]
       refine za6 13 rfl ?_
       try simp only [nrm]
       refine zku rfl fun Kr hKr=>?_
       go_simp
       refine hKr.out _ _ ?_
       try simp only [nrm]
       obtain ⟨y,hy',oy,ly⟩:=st7 (b:=q) D5.out.var (.int .i64 E2.now) (.slice E2.aT E2.T.length E2.cT) (.slice E2.aO E2.O.length E2.cO) (.slice E2.aP E2.P.length E2.cP) (.slice E2.aL E2.L.length E2.cL) (.slice E2.aK E2.K.length E2.cK) (.int .i64 E2.nx)
       rw [hy']
       clear hy'
       clear z0 z1 z2 z3 z4 z5 z6 zf
       have DY:Hid (D14 B a0 len cap b w y q E2):=D5.out.store E2 OW2.out (by have:=HQ5.out;omega) (.inl (by have:=HQ5.out;omega)) ok2 oy ly
       go_wp2
       go_roundw
       case rel=>exact ⟨j,E2,by go_num,by omega,HK2.out HKN.out,DY.out⟩
       case measure=>simp [intOf]<;>omega
      ·clear HKF
       go_upto_region 25 with (fail)
       refine zmr 14 HS (D.out.next (Below.refl _ _).drew) KQ.out.1 KQ.out.2 fun hS=>?_
       refine zeh 0 rfl ?_
       try simp only [nrm]
       refine za6 1 rfl ?_
       try simp only [nrm]
       refine zeh 2 rfl ?_
       try simp only [nrm]
       refine za6 3 rfl ?_
       try simp only [nrm]
       refine za6 4 rfl ?_
       try simp only [nrm]
       refine za6 5 rfl ?_
       try simp only [nrm]
       refine zeh 6 rfl ?_
       try simp only [nrm]
       refine zev 7 rfl fun Kr hKr=>?_
       go_simp
       (refine (zq5 _ _ _).mono ?_;rintro e w3 ⟨rfl,e3⟩;replace e3:=e3.symm;subst e3)
       refine hKr.out _ _ ‹_› fun _=>?_
       try simp only [nrm]
       refine zev 8 rfl fun Kr hKr=>?_
       go_simp
       (refine (zat (max 1 fl) DR.out.cur (Only.refl _ _) (by omega) (by omega)).mono ?_;rintro e u1 ⟨m1,rfl,hm1,kk,oo⟩;have DR:Hid (D14 B a0 len cap b w u1 q E):=DR.out.draw oo kk;have OB:Hid (Only b W u1):=OB.out.trans oo;have hS:=HS.out _ DR.out ((OB.out.cell (p:=⟨kq,0,none⟩) (by have:=HKZ.out;show kq<_;omega) (by have:=HKZ.out;show kq≠b;omega)).trans KQ.out.1) ((OB.out.cell (p:=⟨kq,6,none⟩) (by have:=HKZ.out;show kq<_;omega) (by have:=HKZ.out;show kq≠b;omega)).trans KQ.out.2);have wm1:IntKind.i64.wrap (1+m1)=1+m1:=(by rw [IntKind.wrap_i64];omega))
       refine hKr.out _ _ ‹_› fun _=>?_
       try simp only [nrm]
       refine za6 9 rfl ?_
       try simp only [nrm]
       refine zev 10 rfl fun Kr hKr=>?_
       go_simp
       (obtain ⟨lo',hh',eo',hlo',hq'⟩:=DR.out.own;refine (dLost E DR.out.ok eo' id (1+m1)).mono ?_;rintro e u5 ⟨E2,f2,rfl,ow2,ok2,hT2,hK2,hb5⟩;have zu:=DR.out.big;have D5:Hid (D14 B a0 len cap b w u5 q E):=DR.out.next hb5;have OW2:Hid (E2.own u5 u1.heap.size u5.heap.size):=ow2;have HQ5:Hid (q<u1.heap.size∧w.heap.size<q):=⟨zu,DR.out.oq⟩;have B5:Hid (Below u1.heap.size u1 u5):=hb5;have hS:=HS.out _ D5.out ((B5.out.cell (p:=⟨kq,0,none⟩) (by have:=HKZ.out;have:=OB.out.size;show kq<_;omega)).trans ((OB.out.cell (p:=⟨kq,0,none⟩) (by have:=HKZ.out;show kq<_;omega) (by have:=HKZ.out;show kq≠b;omega)).trans KQ.out.1)) ((B5.out.cell (p:=⟨kq,6,none⟩) (by have:=HKZ.out;have:=OB.out.size;show kq<_;omega)).trans ((OB.out.cell (p:=⟨kq,6,none⟩) (by have:=HKZ.out;show kq<_;omega) (by have:=HKZ.out;show kq≠b;omega)).trans KQ.out.2));obtain ⟨z0,z1,z2,z3,z4,z5,z6⟩:=D5.out.var.c7;have zf:=D5.out.var.free;have HK2:Hid (E.K≠[]→E2.K≠[]):=hK2;clear hT2 hK2 ow2 hb5 eo' hlo' hq')
       refine hKr.out _ _ ‹_› fun _=>?_
       try simp only [nrm]
       refine za6 11 rfl ?_
       try simp only [nrm]
       refine za6 12 rfl ?_
       try simp only [nrm]
       refine za6 13 rfl ?_
       try simp only [nrm]
       refine zku rfl fun Kr hKr=>?_
       go_simp
       refine hKr.out _ _ ?_
       try simp only [nrm]
       obtain ⟨y,hy',oy,ly⟩:=st7 (b:=q) D5.out.var (.int .i64 E2.now) (.slice E2.aT E2.T.length E2.cT) (.slice E2.aO E2.O.length E2.cO) (.slice E2.aP E2.P.length E2.cP) (.slice E2.aL E2.L.length E2.cL) (.slice E2.aK E2.K.length E2.cK) (.int .i64 E2.nx)
       rw [hy']
       clear hy'
       clear z0 z1 z2 z3 z4 z5 z6 zf
       have DY:Hid (D14 B a0 len cap b w y q E2):=D5.out.store E2 OW2.out (by have:=HQ5.out;omega) (.inl (by have:=HQ5.out;omega)) ok2 oy ly
       go_wp2
       go_roundw
       case rel=>exact ⟨j,E2,by go_num,by omega,HK2.out HKN.out,DY.out⟩
       case measure=>simp [intOf]<;>omega
      ·clear HKF
       go_upto_region 27 with (fail)
       refine zmr 7 HS (D.out.next (Below.refl _ _).drew) KQ.out.1 KQ.out.2 fun hS=>?_
       refine zeh 0 rfl ?_
       try simp only [nrm]
       refine za6 1 rfl ?_
       try simp only [nrm]
       refine zev 2 rfl fun Kr hKr=>?_
       go_simp
       (refine (zat 20000000 DR.out.cur (Only.refl _ _) (by omega) (by omega)).mono ?_;rintro e u1 ⟨m1,rfl,hm1,kk,oo⟩;have DR:Hid (D14 B a0 len cap b w u1 q E):=DR.out.draw oo kk;have OB:Hid (Only b W u1):=OB.out.trans oo;have hS:=HS.out _ DR.out ((OB.out.cell (p:=⟨kq,0,none⟩) (by have:=HKZ.out;show kq<_;omega) (by have:=HKZ.out;show kq≠b;omega)).trans KQ.out.1) ((OB.out.cell (p:=⟨kq,6,none⟩) (by have:=HKZ.out;show kq<_;omega) (by have:=HKZ.out;show kq≠b;omega)).trans KQ.out.2))
       refine hKr.out _ _ ‹_› fun _=>?_
       try simp only [nrm]
       refine zev 3 rfl fun Kr hKr=>?_
       go_simp
       (obtain ⟨lo',hh',eo',hlo',hq'⟩:=DR.out.own;refine (dFwd E DR.out.ok eo' m1).mono ?_;rintro e u5 ⟨E2,f2,rfl,ow2,ok2,hT2,hK2,hb5⟩;have zu:=DR.out.big;have D5:Hid (D14 B a0 len cap b w u5 q E):=DR.out.next hb5;have OW2:Hid (E2.own u5 u1.heap.size u5.heap.size):=ow2;have HQ5:Hid (q<u1.heap.size∧w.heap.size<q):=⟨zu,DR.out.oq⟩;have B5:Hid (Below u1.heap.size u1 u5):=hb5;have hS:=HS.out _ D5.out ((B5.out.cell (p:=⟨kq,0,none⟩) (by have:=HKZ.out;have:=OB.out.size;show kq<_;omega)).trans ((OB.out.cell (p:=⟨kq,0,none⟩) (by have:=HKZ.out;show kq<_;omega) (by have:=HKZ.out;show kq≠b;omega)).trans KQ.out.1)) ((B5.out.cell (p:=⟨kq,6,none⟩) (by have:=HKZ.out;have:=OB.out.size;show kq<_;omega)).trans ((OB.out.cell (p:=⟨kq,6,none⟩) (by have:=HKZ.out;show kq<_;omega) (by have:=HKZ.out;show kq≠b;omega)).trans KQ.out.2));obtain ⟨z0,z1,z2,z3,z4,z5,z6⟩:=D5.out.var.c7;have zf:=D5.out.var.free;have HK2:Hid (E.K≠[]→E2.K≠[]):=hK2;clear hT2 hK2 ow2 hb5 eo' hlo' hq')
       refine hKr.out _ _ ‹_› fun _=>?_
       try simp only [nrm]
       refine za6 4 rfl ?_
       try simp only [nrm]
       refine za6 5 rfl ?_
       try simp only [nrm]
       refine za6 6 rfl ?_
       try simp only [nrm]
       refine zku rfl fun Kr hKr=>?_
       go_simp
       refine hKr.out _ _ ?_
       try simp only [nrm]
       obtain ⟨y,hy',oy,ly⟩:=st7 (b:=q) D5.out.var (.int .i64 E2.now) (.slice E2.aT E2.T.length E2.cT) (.slice E2.aO E2.O.length E2.cO) (.slice E2.aP E2.P.length E2.cP) (.slice E2.aL E2.L.length E2.cL) (.slice E2.aK E2.K.length E2.cK) (.int .i64 E2.nx)
       rw [hy']
       clear hy'
       clear z0 z1 z2 z3 z4 z5 z6 zf
       have DY:Hid (D14 B a0 len cap b w y q E2):=D5.out.store E2 OW2.out (by have:=HQ5.out;omega) (.inl (by have:=HQ5.out;omega)) ok2 oy ly
       go_wp2
       go_roundw
       case rel=>exact ⟨j,E2,by go_num,by omega,HK2.out HKN.out,DY.out⟩
       case measure=>simp [intOf]<;>omega
     | zero =>
      obtain ⟨z0,z1,z2,z3,z4,z5,z6⟩:=D.out.res.c7
      have zf:=D.out.res.free
      obtain ⟨t0,t1,t2,t3,t4,t5,t6⟩:=D.out.var.c7
      go_wp2
      obtain ⟨u,hu',ou,U⟩:=st7 (b:=w.heap.size) D.out.res (.int .i64 E.now) (.slice E.aT E.T.length E.cT) (.slice E.aO E.O.length E.cO) (.slice E.aP E.P.length E.cP) (.slice E.aL E.L.length E.cL) (.slice E.aK E.K.length E.cK) (.int .i64 E.nx)
      rw [hu']
      clear hu'
      obtain ⟨fo,fc,fb⟩:=D.out.fin ou
      refine bodyPost_ret (zaj rfl _ _ _ _ rfl U.cell Tryz.underlying31 rfl (by kernel_rfl)) rfl ?_
      exact ⟨E,rfl,fo,D.out.ok,HKN.out,fc,fb⟩
section
variable {w:World} {lo hi g cap:Nat} {sT sO sP vL vK:Value} {uL uK:List Value} {T O P:List Q4} {L:List F8} {K:List Kn}
theorem EOwn.setI {i j:Nat} {x:Int} {c:Kn} (h:EOwn w lo hi sT sO sP vL uL (.slice (some ⟨g,0,none⟩) K.length cap) uK T O P L K) (hi1:i<K.length) (hj:j<13) (hx:c.xs=K[i].xs) (hc:c.cs=K[i].cs.set j (.int .i64 x)) :
 EOwn (w.setCell ⟨g,i*14+j,none⟩ (.int .i64 x)) lo hi sT sO sP vL uL (.slice (some ⟨g,0,none⟩) (K.set i c).length cap) uK T O P L (K.set i c):=by
 obtain ⟨hcap,ko,hl⟩:=h.ko (by omega)
 have hi2:i<uK.length:=by omega
 obtain ⟨c0,c1⟩:=ko.got i hi1 hi2
 obtain ⟨⟨z,hz⟩,_⟩:=ko.any (i*14+j) (by omega)
 have q:=h.putK (c:=c) (v:=uK[i]) hi1 ((Only.refl _ w).setCell (p:=⟨g,i*14+j,none⟩) rfl (.int .i64 x)) (fun k u hu=>?_) (fun k hk=>zaf (by omega)) (fun k=>World.frozen?_setCell _ _ _ _) (by rw [hx];exact (ko.own i hi1 hi2)) (fun b e=>.inl (by rw [List.getElem?_eq_getElem hi2];exact e)) (Nat.le_refl _) h.top (h.rm _ (List.getElem_mem hi2))
 ·rw [List.set_getElem_self] at q
  exact q
 ·have hk:k<14:=(List.getElem?_eq_some_iff.1 hu).1
  by_cases a:k<13
  ·rw [List.getElem?_append_left (by rw [Kn.len];exact a),hc,List.getElem?_set] at hu
   by_cases e:j=k
   ·subst e
    rw [if_pos rfl,if_pos (by rw [Kn.len];exact hj)] at hu
    rw [←Option.some.inj hu]
    exact zbt _ hz
   ·rw [if_neg e] at hu
    exact (zaf (by omega)).trans (c0 k u hu)
  ·have e:k=13:=by omega
   subst e
   have:uK[i]=u:=Option.some.inj hu
   rw [←this]
   exact (zaf (by omega)).trans c1
end
theorem zzm {T O P:List Q4} {L:List F8} {K:List Kn} (h:Small T O P L K) {i:Nat} (hi:i<K.length) {c:Kn} (hx:c.xs=K[i].xs):Small T O P L (K.set i c) :=
 ⟨h.t,h.o,h.p,h.l,h.lm,by rw [List.length_set];exact h.k,fun d hd=>by
  rcases List.mem_or_eq_of_mem_set hd with e|e
  ·exact h.km d e
  ·rw [e,hx];exact h.km _ (List.getElem_mem hi)⟩
def EgR.ownQ (E:EgR) (w:World) (lo q:Nat):Prop:=∃hi uL uK,EOwn w lo hi (.slice E.aT E.T.length E.cT) (.slice E.aO E.O.length E.cO) (.slice E.aP E.P.length E.cP) (.slice E.aL E.L.length E.cL) uL (.slice E.aK E.K.length E.cK) uK E.T E.O E.P E.L E.K∧¬inE (.slice E.aT E.T.length E.cT) (.slice E.aO E.O.length E.cO) (.slice E.aP E.P.length E.cP) (.slice E.aL E.L.length E.cL) uL (.slice E.aK E.K.length E.cK) uK q
section
variable {w w':World} {lo hi q:Nat} {E:EgR}
theorem EgR.own.toQ (h:E.own w lo hi) (hq:q<lo∨hi≤q):E.ownQ w lo q:=by
 obtain ⟨lo',hi',uL,uK,h1,h2,x⟩:=h
 exact ⟨hi',uL,uK,x.wider h1 (Nat.le_refl _) x.top,fun hb=>by have:=x.bd hb;omega⟩
theorem EgR.ownQ.own (h:E.ownQ w lo q):E.own w lo w.heap.size:=by
 obtain ⟨hi',uL,uK,x,_⟩:=h
 exact ⟨lo,hi',uL,uK,Nat.le_refl _,x.top,x⟩
theorem EgR.ownQ.onlyP {p:Nat→Prop} (h:E.ownQ w lo q) (o:OnlyP p w w') (hp:∀b,p b→b<lo∨b=q):E.ownQ w' lo q:=by
 obtain ⟨hi',uL,uK,x,hn⟩:=h
 exact ⟨hi',uL,uK,x.onlyP o (fun b hb hpb=>(hp b hpb).elim (fun e=>by have:=x.bd hb;omega) (fun e=>hn (by rw [←e];exact hb))),hn⟩
theorem EgR.ownQ.only {g:Nat} (h:E.ownQ w lo q) (o:Only g w w') (hg:g<lo∨g=q):E.ownQ w' lo q:=h.onlyP (OnlyP.ofOnly (p:=fun b=>b=g) o rfl) (fun b e=>by rw [e];exact hg)
theorem EgR.ownQ.setI {gk i j:Nat} {x:Int} {c:Kn} (h:E.ownQ w lo q) (ha:E.aK=some ⟨gk,0,none⟩) (hi1:i<E.K.length) (hj:j<13) (hx:c.xs=E.K[i].xs) (hc:c.cs=E.K[i].cs.set j (.int .i64 x)):{ E with K:=E.K.set i c }.ownQ (w.setCell ⟨gk,i*14+j,none⟩ (.int .i64 x)) lo q∧(lo≤gk∧gk<w.heap.size∧gk≠q):=by
 obtain ⟨hi',uL,uK,ex,hn⟩:=h
 obtain ⟨gk',ha',g0,g1,g2⟩:=ex.atK (by omega)
 have hgk:gk'=gk:=by rw [ha] at ha';injection ha' with e1;injection e1 with e2;exact e2.symm
 subst hgk
 rw [ha] at ex hn g2
 refine ⟨⟨hi',uL,uK,?_,?_⟩,g0,g1,fun e=>hn (by rw [←e];exact g2)⟩
 ·show EOwn _ lo hi' _ _ _ _ uL (.slice E.aK (E.K.set i c).length E.cK) uK _ _ _ _ (E.K.set i c)
  rw [ha]
  exact ex.setI hi1 hj hx hc
 ·show ¬inE _ _ _ _ uL (.slice E.aK (E.K.set i c).length E.cK) uK q
  rw [ha]
  exact hn
theorem EgR.ownQ.sizes {gk i:Nat} {v:Value} (h:E.ownQ w lo q) (ha:E.aK=some ⟨gk,0,none⟩) (hi1:i<E.K.length) (hv:w.cell? ⟨gk,i*14+13,none⟩=some v):(E.K[i].xs=[]∧∃a,v=.slice a 0 0)∨(E.K[i].xs≠[]∧w.ownsRow lo 2 1 v E.K[i].xs.length (za7 E.K[i].xs)):=by
 obtain ⟨hi',uL,uK,ex,hn⟩:=h
 rw [ha] at ex
 obtain ⟨hcap,ko,hl⟩:=ex.ko (by omega)
 have hi2:i<uK.length:=by omega
 have e:=(ko.got i hi1 hi2).2
 rw [hv] at e
 rw [Option.some.inj e]
 exact (ex.rm _ (List.getElem_mem hi2)).row (ko.own i hi1 hi2)
theorem EgR.ownQ.app {gk i:Nat} {v v':Value} {w1:World} {y:Int} (h:E.ownQ w lo q) (hq:q<w.heap.size) (ha:E.aK=some ⟨gk,0,none⟩) (hi1:i<E.K.length) (hv:w.cell? ⟨gk,i*14+13,none⟩=some v) (own:w1.ownsRow 0 2 1 v' (E.K[i].xs.length+1) (za7 E.K[i].xs ++ [.int .i64 y])) (o1:OnlyP (fun b=>elB v=some b) w w1) (hw:∀b,elB v'=some b→elB v=some b∨w.heap.size≤b) :
 { E with K:=E.K.set i (E.K[i].more y) }.ownQ (w1.setCell ⟨gk,i*14+13,none⟩ v') lo q∧OnlyP (fun b=>lo≤b∧b≠q) w (w1.setCell ⟨gk,i*14+13,none⟩ v')∧OnlyP (fun b=>lo≤b∧b≠q∧b≠gk) w w1:=by
 obtain ⟨hi',uL,uK,ex,hn⟩:=h
 obtain ⟨gk',ha',g0,g1,g2⟩:=ex.atK (by omega)
 have hgk:gk'=gk:=by rw [ha] at ha';injection ha' with e1;injection e1 with e2;exact e2.symm
 subst hgk
 rw [ha] at ex hn g2
 obtain ⟨hcap,ko,hl⟩:=ex.ko (by omega)
 have hi2:i<uK.length:=by omega
 have e:=(ko.got i hi1 hi2).2
 rw [hv] at e
 have ev:v=uK[i]:=Option.some.inj e
 subst ev
 have ey:=ex.app hi1 (v:=v') (y:=y) (fun _=>⟨o1,hw⟩) own
 have hgq:gk'≠q:=fun e=>hn (by rw [←e];exact g2)
 have hin:∀b,elB uK[i]=some b→inE (.slice E.aT E.T.length E.cT) (.slice E.aO E.O.length E.cO) (.slice E.aP E.P.length E.cP) (.slice E.aL E.L.length E.cL) uL (.slice (some ⟨gk',0,none⟩) E.K.length E.cK) uK b:=fun b e=>.inr (.inr (ex.k.mem (List.getElem_mem hi2) e))
 have hu:∀b,elB uK[i]=some b→lo≤b∧b≠q:=fun b e=>⟨(ex.bd (hin b e)).1,fun e'=>hn (by rw [←e'];exact hin b e)⟩
 have o2:OnlyP (fun b=>lo≤b∧b≠q∧b≠gk') w w1:=o1.weak (fun b e=>⟨(hu b e).1,(hu b e).2,fun e'=>ko.far i hi2 (by rw [e,e'])⟩)
 have o3:OnlyP (fun b=>lo≤b∧b≠q) w1 (w1.setCell ⟨gk',i*14+13,none⟩ v'):=OnlyP.ofOnly ((Only.refl _ w1).setCell (p:=⟨gk',i*14+13,none⟩) rfl v') ⟨g0,hgq⟩
 refine ⟨⟨w1.heap.size,uL,uK.set i v',?_,?_⟩,(o2.weak (fun b e=>⟨e.1,e.2.1⟩)).two o3,o2⟩
 ·show EOwn _ lo _ _ _ _ _ uL (.slice E.aK (E.K.set i (E.K[i].more y)).length E.cK) _ _ _ _ _ (E.K.set i (E.K[i].more y))
  rw [ha]
  exact ey
 ·show ¬inE _ _ _ _ uL (.slice E.aK (E.K.set i (E.K[i].more y)).length E.cK) (uK.set i v') q
  rw [ha]
  intro hb
  rcases hb with hb|hb|hb
  ·exact hn (.inl hb)
  ·exact hn (.inr (.inl hb))
  ·rcases zgl (n:=E.K.length) hb with r|r
   ·exact hn (.inr (.inr r))
   ·rcases hw q r with r|r
    ·exact (hu q r).2 rfl
    ·omega
end
structure D17 (B:Nat) (a0:Option Addr) (len cap b:Nat) (w wr:World) (q:Nat) (E:EgR):Prop where
 cur:Cur B a0 len cap b wr
 only:Only b w wr
 lt:b<w.heap.size
 oq:w.heap.size<q
 res:Lay wr w.heap.size [.int .i64 0,.slice none 0 0,.slice none 0 0,.slice none 0 0,.slice none 0 0,.slice none 0 0,.int .i64 0]
 var:Lay wr q [.int .i64 E.now,.slice E.aT E.T.length E.cT,.slice E.aO E.O.length E.cO,.slice E.aP E.P.length E.cP,.slice E.aL E.L.length E.cL,.slice E.aK E.K.length E.cK,.int .i64 E.nx]
 own:∃lo,E.ownQ wr lo q∧w.heap.size<lo
 sm:Small E.T E.O E.P E.L E.K
 hk:E.K≠[]
section
variable {B:Nat} {a0:Option Addr} {len cap b:Nat} {w wr:World} {q:Nat} {E:EgR}
theorem D17.draw (d:D17 B a0 len cap b w wr q E) {w2:World} (o:Only b wr w2) (k:Cur B a0 len cap b w2):D17 B a0 len cap b w w2 q E:=by
 have h1:=d.lt
 have h2:=d.oq
 obtain ⟨lo,e,h3⟩:=d.own
 exact ⟨k,d.only.trans o,d.lt,d.oq,d.res.only o (by omega),d.var.only o (by omega),⟨lo,e.only o (.inl (by omega)),h3⟩,d.sm,d.hk⟩
theorem D17.next (d:D17 B a0 len cap b w wr q E) {w2:World} (h:Below wr.heap.size wr w2):D17 B a0 len cap b w w2 q E:=d.draw (Only.of_below h) (d.cur.mono h)
theorem D17.big (d:D17 B a0 len cap b w wr q E):q<wr.heap.size:=d.var.lt
theorem D17.turnP {p:Nat→Prop} {u:World} (d:D17 B a0 len cap b w wr q E) (E':EgR) (o:OnlyP p wr u) (hp:∀g,p g→w.heap.size<g) (v:Lay u q [.int .i64 E'.now,.slice E'.aT E'.T.length E'.cT,.slice E'.aO E'.O.length E'.cO,.slice E'.aP E'.P.length E'.cP,.slice E'.aL E'.L.length E'.cL,.slice E'.aK E'.K.length E'.cK,.int .i64 E'.nx]) (own:∃lo,E'.ownQ u lo q∧w.heap.size<lo) (sm:Small E'.T E'.O E'.P E'.L E'.K) (hk:E'.K≠[]):D17 B a0 len cap b w u q E':=by
 have h1:=d.lt
 have h2:=d.oq
 have h3:=d.var.lt
 have hb:Below (w.heap.size+1) wr u:=⟨o.os,o.tape,o.output,o.size,fun k hk=>o.block k (by omega) (fun e=>by have:=hp k e;omega)⟩
 exact ⟨d.cur.under hb (by omega),⟨o.os.trans d.only.os,o.tape.trans d.only.tape,o.output.trans d.only.output,Nat.le_trans d.only.size o.size,fun k hk hn=>(o.block k (Nat.lt_of_lt_of_le hk d.only.size) (fun e=>by have:=hp k e;omega)).trans (d.only.block k hk hn)⟩,d.lt,d.oq,d.res.block o.size (o.block _ (by omega) (fun e=>by have:=hp _ e;omega)),v,own,sm,hk⟩
theorem D17.turn {g:Nat} {u:World} (d:D17 B a0 len cap b w wr q E) (E':EgR) (o:Only g wr u) (hg:w.heap.size<g) (v:Lay u q [.int .i64 E'.now,.slice E'.aT E'.T.length E'.cT,.slice E'.aO E'.O.length E'.cO,.slice E'.aP E'.P.length E'.cP,.slice E'.aL E'.L.length E'.cL,.slice E'.aK E'.K.length E'.cK,.int .i64 E'.nx]) (own:∃lo,E'.ownQ u lo q∧w.heap.size<lo) (sm:Small E'.T E'.O E'.P E'.L E'.K) (hk:E'.K≠[]):D17 B a0 len cap b w u q E' :=
 d.turnP E' (OnlyP.ofOnly (p:=fun b=>b=g) o rfl) (fun b e=>by rw [e];exact hg) v own sm hk
theorem D17.setI {gk i j:Nat} {x:Int} {c:Kn} (d:D17 B a0 len cap b w wr q E) (ha:E.aK=some ⟨gk,0,none⟩) (hi1:i<E.K.length) (hj:j<13) (hx:c.xs=E.K[i].xs) (hc:c.cs=E.K[i].cs.set j (.int .i64 x)):D17 B a0 len cap b w (wr.setCell ⟨gk,i*14+j,none⟩ (.int .i64 x)) q { E with K:=E.K.set i c }:=by
 obtain ⟨lo,e,h3⟩:=d.own
 obtain ⟨e1,g0,g1,g2⟩:=e.setI ha hi1 hj hx hc
 have o:Only gk wr (wr.setCell ⟨gk,i*14+j,none⟩ (.int .i64 x)):=(Only.refl _ wr).setCell (p:=⟨gk,i*14+j,none⟩) rfl _
 refine d.turn { E with K:=E.K.set i c } o (by omega) ?_ ⟨lo,e1,h3⟩ (zzm d.sm hi1 hx) (ziv d.hk)
 have v:=d.var.only o (fun e=>g2 e.symm)
 show Lay _ q [.int .i64 E.now,.slice E.aT E.T.length E.cT,.slice E.aO E.O.length E.cO,.slice E.aP E.P.length E.cP,.slice E.aL E.L.length E.cL,.slice E.aK (E.K.set i c).length E.cK,.int .i64 E.nx]
 rw [List.length_set]
 exact v
theorem D17.app {gk i:Nat} {v v':Value} {w1:World} {y:Int} (d:D17 B a0 len cap b w wr q E) (ha:E.aK=some ⟨gk,0,none⟩) (hi1:i<E.K.length) (hv:wr.cell? ⟨gk,i*14+13,none⟩=some v) (own:w1.ownsRow 0 2 1 v' (E.K[i].xs.length+1) (za7 E.K[i].xs ++ [.int .i64 y])) (o1:OnlyP (fun b=>elB v=some b) wr w1) (hw:∀b,elB v'=some b→elB v=some b∨wr.heap.size≤b) (hxl:E.K[i].xs.length+1≤1000) :
 D17 B a0 len cap b w (w1.setCell ⟨gk,i*14+13,none⟩ v') q { E with K:=E.K.set i (E.K[i].more y) }∧(∀j,w1.cell? ⟨gk,j,none⟩=wr.cell? ⟨gk,j,none⟩)∧∀j,w1.frozen? ⟨gk,j,none⟩=wr.frozen? ⟨gk,j,none⟩:=by
 obtain ⟨lo,e,h3⟩:=d.own
 obtain ⟨_,g0,g1,g2⟩:=e.setI (x:=0) (j:=0) (c:={ E.K[i] with id:=0 }) ha hi1 (by decide) rfl rfl
 obtain ⟨e1,o2,o3⟩:=e.app d.var.lt ha hi1 hv own o1 hw
 have hbk:=o3.block gk g1 (fun e=>e.2.2 rfl)
 refine ⟨?_,fun j=>World.cell?_of_block hbk,fun j=>World.frozen?_of_block hbk⟩
 refine d.turnP { E with K:=E.K.set i (E.K[i].more y) } o2 (fun g e=>by omega) ?_ ⟨lo,e1,h3⟩ (d.sm.setK (by show (E.K[i].xs ++ [y]).length≤1000;rw [List.length_append];exact hxl)) (ziv d.hk)
 have v:=d.var.block o2.size (o2.block _ d.var.lt (fun e=>e.2 rfl))
 show Lay _ q [.int .i64 E.now,.slice E.aT E.T.length E.cT,.slice E.aO E.O.length E.cO,.slice E.aP E.P.length E.cP,.slice E.aL E.L.length E.cL,.slice E.aK (E.K.set i (E.K[i].more y)).length E.cK,.int .i64 E.nx]
 rw [List.length_set]
 exact v
theorem D17.sizes {gk i:Nat} {v:Value} (d:D17 B a0 len cap b w wr q E) (ha:E.aK=some ⟨gk,0,none⟩) (hi1:i<E.K.length) (hv:wr.cell? ⟨gk,i*14+13,none⟩=some v):(E.K[i].xs=[]∧∃a,v=.slice a 0 0)∨(E.K[i].xs≠[]∧wr.ownsRow 0 2 1 v E.K[i].xs.length (za7 E.K[i].xs)):=by
 obtain ⟨lo,e,_⟩:=d.own
 rcases e.sizes ha hi1 hv with r|⟨r1,r2⟩
 ·exact .inl r
 ·exact .inr ⟨r1,zcs r2 (Nat.zero_le _)⟩
theorem D17.free {gk:Nat} (d:D17 B a0 len cap b w wr q E) (ha:E.aK=some ⟨gk,0,none⟩) (j:Nat) (hj:j<E.K.length*14):wr.frozen? ⟨gk,j,none⟩=false:=by
 obtain ⟨lo,⟨hi',uL,uK,ex,hn⟩,_⟩:=d.own
 rw [ha] at ex
 obtain ⟨_,ko,_⟩:=ex.ko (by omega)
 exact (ko.any j hj).2
theorem D17.setN (d:D17 B a0 len cap b w wr q E) (x:Int):D17 B a0 len cap b w (wr.setCell ⟨q,0,none⟩ (.int .i64 x)) q { E with now:=x }:=by
 obtain ⟨lo,e,h3⟩:=d.own
 have o:Only q wr (wr.setCell ⟨q,0,none⟩ (.int .i64 x)):=(Only.refl _ wr).setCell (p:=⟨q,0,none⟩) rfl _
 refine d.turn { E with now:=x } o d.oq ?_ ⟨lo,EgR.ownQ.only e o (.inr rfl),h3⟩ d.sm d.hk
 exact d.var.put (p:=[]) (q:=[.int .i64 E.now]) (r:=[.slice E.aT E.T.length E.cT,.slice E.aO E.O.length E.cO,.slice E.aP E.P.length E.cP,.slice E.aL E.L.length E.cL,.slice E.aK E.K.length E.cK,.int .i64 E.nx]) [.int .i64 x] rfl
theorem D17.setX (d:D17 B a0 len cap b w wr q E) (x:Int):D17 B a0 len cap b w (wr.setCell ⟨q,6,none⟩ (.int .i64 x)) q { E with nx:=x }:=by
 obtain ⟨lo,e,h3⟩:=d.own
 have o:Only q wr (wr.setCell ⟨q,6,none⟩ (.int .i64 x)):=(Only.refl _ wr).setCell (p:=⟨q,6,none⟩) rfl _
 refine d.turn { E with nx:=x } o d.oq ?_ ⟨lo,EgR.ownQ.only e o (.inr rfl),h3⟩ d.sm d.hk
 exact d.var.put (p:=[.int .i64 E.now,.slice E.aT E.T.length E.cT,.slice E.aO E.O.length E.cO,.slice E.aP E.P.length E.cP,.slice E.aL E.L.length E.cL,.slice E.aK E.K.length E.cK]) (q:=[.int .i64 E.nx]) (r:=[]) [.int .i64 x] rfl
theorem D17.setL (d:D17 B a0 len cap b w wr q E) (a:Option Addr):D17 B a0 len cap b w (wr.setCell ⟨q,4,none⟩ (.slice a 0 0)) q { E with L:=[],aL:=a,cL:=0 }:=by
 obtain ⟨lo,e,h3⟩:=d.own
 have o:Only q wr (wr.setCell ⟨q,4,none⟩ (.slice a 0 0)):=(Only.refl _ wr).setCell (p:=⟨q,4,none⟩) rfl _
 obtain ⟨hi',uL,uK,ex,hn⟩:=EgR.ownQ.only e o (.inr rfl)
 have nv:∀b,¬inV (.slice a 0 0) [] b:=fun b=>zq3 _ b
 refine d.turn { E with L:=[],aL:=a,cL:=0 } o d.oq ?_ ⟨lo,⟨hi',[],uK,⟨ex.l,ex.lb,.inr ⟨rfl,rfl,a,0,rfl⟩,ex.k,fun b _=>nv b,ex.d2,fun b hb=>absurd hb (nv b),ex.top,ex.rm⟩,fun hb=>hn (hb.elim .inl (fun hb=>hb.elim (fun e=>absurd e (nv _)) (fun e=>.inr (.inr e))))⟩,h3⟩ ⟨d.sm.t,d.sm.o,d.sm.p,Nat.zero_le _,(fun f hf=>by cases hf),d.sm.k,d.sm.km⟩ d.hk
 exact d.var.put (p:=[.int .i64 E.now,.slice E.aT E.T.length E.cT,.slice E.aO E.O.length E.cO,.slice E.aP E.P.length E.cP]) (q:=[.slice E.aL E.L.length E.cL]) (r:=[.slice E.aK E.K.length E.cK,.int .i64 E.nx]) [.slice a 0 0] rfl
theorem D17.fin {u:World} (d:D17 B a0 len cap b w wr q E) (o:Only w.heap.size wr u):E.own u w.heap.size u.heap.size∧Cur B a0 len cap b u∧Only b w u:=by
 have h1:=d.lt
 have h2:=d.oq
 obtain ⟨lo,eo,h3⟩:=d.own
 have hb:Below w.heap.size wr u:=o.below (Nat.le_refl _) (by have:=d.var.lt;omega)
 exact ⟨(eo.own.only o (.inl h3)).wider (by omega) o.size,d.cur.under hb h1,⟨o.os.trans d.only.os,o.tape.trans d.only.tape,o.output.trans d.only.output,Nat.le_trans d.only.size o.size,fun k hk hn=>(o.block k (Nat.lt_of_lt_of_le hk d.only.size) (by omega)).trans (d.only.block k hk hn)⟩⟩
theorem D17.conns (d:D17 B a0 len cap b w wr q E):∃gk,E.aK=some ⟨gk,0,none⟩∧(w.heap.size<gk∧gk<wr.heap.size∧gk≠q)∧(∀i (h:i<E.K.length),wr.cell? ⟨gk,i*14,none⟩=some (.int .i64 E.K[i].id)∧wr.cell? ⟨gk,i*14+1,none⟩=some (.int .i64 E.K[i].lf)∧wr.cell? ⟨gk,i*14+2,none⟩=some (.int .i64 E.K[i].pl)∧wr.cell? ⟨gk,i*14+3,none⟩=some (.int .i64 E.K[i].k)∧wr.cell? ⟨gk,i*14+4,none⟩=some (.int .i64 E.K[i].wn)∧wr.cell? ⟨gk,i*14+5,none⟩=some (.int .i64 E.K[i].th)∧wr.cell? ⟨gk,i*14+6,none⟩=some (.int .i64 E.K[i].fl)∧wr.cell? ⟨gk,i*14+7,none⟩=some (.int .i64 E.K[i].ac)∧wr.cell? ⟨gk,i*14+8,none⟩=some (.int .i64 E.K[i].la)∧wr.cell? ⟨gk,i*14+9,none⟩=some (.int .i64 E.K[i].og)∧wr.cell? ⟨gk,i*14+10,none⟩=some (.int .i64 E.K[i].st)∧wr.cell? ⟨gk,i*14+11,none⟩=some (.int .i64 E.K[i].fr)∧wr.cell? ⟨gk,i*14+12,none⟩=some (.bool E.K[i].sl)∧∃sa sc,wr.cell? ⟨gk,i*14+13,none⟩=some (.slice sa E.K[i].xs.length sc))∧∀j,j<E.K.length*14→wr.frozen? ⟨gk,j,none⟩=false:=by
 have hk:1≤E.K.length:=List.length_pos_iff.2 d.hk
 obtain ⟨lo,e,h1⟩:=d.own
 obtain ⟨hi',uL,uK,eo,hn⟩:=e
 obtain ⟨gk,ha,g0,g1,g2⟩:=eo.atK (by omega)
 have g3:gk≠q:=fun e=>hn (by rw [←e];exact g2)
 rw [ha] at eo
 obtain ⟨_,ko,_⟩:=eo.ko (by omega)
 refine ⟨gk,ha,⟨by omega,g1,g3⟩,fun i h=>?_,fun j hj=>(ko.any j hj).2⟩
 obtain ⟨c0,c1,c2,c3,c4,c5,c6,c7,c8,c9,c10,c11,c12⟩:=eo.con h
 obtain ⟨sa,sc,c13,_⟩:=eo.con13 h
 exact ⟨c0,c1,c2,c3,c4,c5,c6,c7,c8,c9,c10,c11,c12,sa,sc,c13⟩
def PA14 (B:Nat) (a0:Option Addr) (len cap b:Nat) (w:World) (e:Ending) (w':World):Prop:=∃(E:EgR),e=.returned (zcp E.now E.aT E.T.length E.cT E.aO E.O.length E.cO E.aP E.P.length E.cP E.aL E.L.length E.cL E.aK E.K.length E.cK E.nx)∧E.own w' w.heap.size w'.heap.size∧Small E.T E.O E.P E.L E.K∧E.K≠[]∧Cur B a0 len cap b w'∧Only b w w'
end
theorem zxv (X:Nat) (h:X<3):∃y:Int,(#[Value.int IntKind.i64 0,Value.int IntKind.i64 1501,Value.int IntKind.i64 5]:Array Value)[X]?=some (.int .i64 y):=by
 match X,h with
 | 0,_=>exact ⟨_,rfl⟩
 | 1,_=>exact ⟨_,rfl⟩
 | 2,_=>exact ⟨_,rfl⟩
theorem zmo {B:Nat} {a0:Option Addr} {len cap b:Nat} {w:World} (k:Cur B a0 len cap b w):Calls Tryz.prog 34 #[.pointer (some ⟨b,0,none⟩)] w (PA14 B a0 len cap b w):=by
 have hlt:=k.hi
 obtain ⟨v,hv,kv,ov,zv,lv⟩:∃v,w.alloc (.cells #[.int .i64 0,.slice none 0 0,.slice none 0 0,.slice none 0 0,.slice none 0 0,.slice none 0 0,.int .i64 0] 31)=v∧Cur B a0 len cap b v∧Only b w v∧v.heap.size=w.heap.size+1∧Lay v w.heap.size [.int .i64 0,.slice none 0 0,.slice none 0 0,.slice none 0 0,.slice none 0 0,.slice none 0 0,.int .i64 0] :=
  ⟨_,rfl,k.alloc _,(Only.refl _ _).alloc _,by simp,zbs [.int .i64 0,.slice none 0 0,.slice none 0 0,.slice none 0 0,.slice none 0 0,.slice none 0 0,.int .i64 0] _ rfl⟩
 go_enter Tryz.func34,Tryz.ntmps34
 go_upto_region 1 with (fail)
 clear hv
 have hbv0:b<v.heap.size:=kv.hi
 go_upto_region 2 with (first|(go_at_call 91;refine (zsi kv).mono ?_;rintro e wA ⟨E,rfl,eo,ok,hkn,kA,oA⟩))
 obtain ⟨q,hq⟩:∃q,wA.heap.size=q:=⟨_,rfl⟩
 obtain ⟨x,hx⟩:∃x,wA.alloc (.cells #[.int .i64 E.now,.slice E.aT E.T.length E.cT,.slice E.aO E.O.length E.cO,.slice E.aP E.P.length E.cP,.slice E.aL E.L.length E.cL,.slice E.aK E.K.length E.cK,.int .i64 E.nx] 31)=x:=⟨_,rfl⟩
 have zA:=oA.size
 have hb:=zac wA (.cells #[.int .i64 E.now,.slice E.aT E.T.length E.cT,.slice E.aO E.O.length E.cO,.slice E.aP E.P.length E.cP,.slice E.aL E.L.length E.cL,.slice E.aK E.K.length E.cK,.int .i64 E.nx] 31)
 have D:Hid (D17 B a0 len cap b w x q E):=by
  show D17 B a0 len cap b w x q E
  rw [←hx,←hq]
  exact ⟨kA.mono hb,(ov.trans oA).trans (Only.of_below hb),hlt,by omega,(lv.only oA (by omega)).next hb,zbs [.int .i64 E.now,.slice E.aT E.T.length E.cT,.slice E.aO E.O.length E.cO,.slice E.aP E.P.length E.cP,.slice E.aL E.L.length E.cL,.slice E.aK E.K.length E.cK,.int .i64 E.nx] _ rfl,⟨v.heap.size,(eo.next hb).toQ (.inr (Nat.le_refl _)),by omega⟩,zn7 ok,hkn⟩
 rw [hx,hq]
 have HNW:Hid (IntKind.i64.wrap (E.now+1)=E.now+1):=by
  have:=zlw ok
  show IntKind.i64.wrap (E.now+1)=E.now+1
  rw [IntKind.wrap_i64];omega
 have HXL:Hid (∀i (h:i<E.K.length),E.K[i].xs.length≤100):=fun i h=>z0f (ok.con i h)
 have HFL:Hid (∀i (h:i<E.K.length),0≤E.K[i].fl∧E.K[i].fl≤1000000000):=fun i h=>zyf (ok.con i h)
 have hk40:E.K.length≤40:=ok.k1
 have hk0:1≤E.K.length:=List.length_pos_iff.2 hkn
 clear hx hq hb eo ok hkn kA oA lv kv ov
 go_upto_if 8 with (first
  | (go_at_call 36;refine (zni _ D.out.cur (Only.refl _ _) (by omega) (by omega)).mono ?_;rintro e w4 ⟨f4,rfl,k4,o4⟩;have D:Hid (D17 B a0 len cap b w w4 q E):=D.out.draw o4 k4;clear k4 o4))
 go_cut [4] from 9 to 96 (fun _ wd=>∃E,D17 B a0 len cap b w wd q E)
 case first =>
  cases f4
  ·go_wp2
   go_meet
   exact ⟨_,D.out⟩
  ·obtain ⟨gk,hak,hgk,_,_⟩:=D.out.conns
   have HAK:Hid (E.aK=some ⟨gk,0,none⟩):=hak
   have HS:Hid (∀w',D17 B a0 len cap b w w' q E→w'.cell? ⟨q,5,none⟩=some (.slice (some ⟨gk,0,none⟩) E.K.length E.cK)):=fun w' d=>by have c:=d.var.cell 5 _ rfl;rw [HAK.out] at c;exact c
   go_upto_region 3 with (fail)
   have DR:Hid (D17 B a0 len cap b w w4.drew q E):=D.out.next (Below.refl _ _).drew
   clear hak
   refine zce HS DR.out fun hS=>?_
   refine zab 0 rfl ?_
   refine zab 1 rfl ?_
   refine zab 2 rfl ?_
   refine zab 3 rfl ?_
   refine zab 4 rfl ?_
   refine zab 5 rfl ?_
   refine zci 6 rfl fun Kr hKr=>?_
   go_simp
   (refine (zat (E.K.length:Int) DR.out.cur (Only.refl _ _) (by omega) (by omega)).mono ?_;rintro e u1 ⟨m1,rfl,hm1,kk,oo⟩;have DR:Hid (D17 B a0 len cap b w u1 q E):=DR.out.draw oo kk;have hS:=HS.out _ DR.out;obtain ⟨i,hie⟩:∃i:Nat,m1=(i:Int):=⟨m1.toNat,by omega⟩;subst hie;have hi2:i<E.K.length:=(by omega);have hi0:(0:Int)≤(i:Int):=(by omega);have hi3:(i:Int)<(E.K.length:Int):=(by omega))
   refine hKr.out _ _ ‹_› fun _=>?_
   try simp only [nrm]
   refine zab 7 rfl ?_
   refine zab 8 rfl ?_
   refine wpAnyH_done (by kernel_rfl) ?_ _
   go_upto_region 5 with (first|(go_at_call 35;refine (zat _ DR.out.cur (Only.refl _ _) (by omega) (by omega)).mono ?_;rintro e u2 ⟨x9,rfl,hx9',k9,o9⟩;have D:Hid (D17 B a0 len cap b w u2 q E):=DR.out.draw o9 k9;clear k9 o9))
   have hnw:=HNW.out
   have hx9:x9=0∨x9=1∨x9=2∨x9=3∨x9=4∨x9=5∨x9=6∨x9=7∨x9=8:=by omega
   clear hx9'
   rcases hx9 with rfl|rfl|rfl|rfl|rfl|rfl|rfl|rfl|rfl
   ·obtain ⟨q0,q1,q2,q3,q4,q5,q6⟩:=D.out.var.c7
    have qf:=D.out.var.free
    go_wp2
    go_meet
    exact ⟨_,D.out.setN _⟩
   ·have DN:Hid (D17 B a0 len cap b w (u2.alloc (.cells #[.int .i64 (-1),.int .i64 (1000001),.int .i64 (1000002)] 2)) q E):=D.out.next (zac _ _)
    go_wp2_with (first|(go_at_call 35;refine (zat _ DN.out.cur (Only.refl _ _) (by omega) (by omega)).mono ?_;rintro e u4 ⟨x5,rfl,hx5,k5,o5⟩;have D4:Hid (D17 B a0 len cap b w u4 q E):=DN.out.draw o5 k5;have hzb:=D.out.lt;have hzq:=D.out.oq;have hzg:=D.out.big;have t0:u4.cell? ⟨u2.heap.size,0,none⟩=some (.int .i64 (-1)):=(o5.cell (p:=⟨u2.heap.size,0,none⟩) (by simp) (by show u2.heap.size≠b;omega)).trans (by go_simp);have t1:u4.cell? ⟨u2.heap.size,1,none⟩=some (.int .i64 (1000001)):=(o5.cell (p:=⟨u2.heap.size,1,none⟩) (by simp) (by show u2.heap.size≠b;omega)).trans (by go_simp);have t2:u4.cell? ⟨u2.heap.size,2,none⟩=some (.int .i64 (1000002)):=(o5.cell (p:=⟨u2.heap.size,2,none⟩) (by simp) (by show u2.heap.size≠b;omega)).trans (by go_simp);obtain ⟨q0,q1,q2,q3,q4,q5,q6⟩:=D4.out.var.c7;have qf:=D4.out.var.free;have hx5':x5=0∨x5=1∨x5=2:=(by omega);clear hx5;rcases hx5' with rfl|rfl|rfl;clear k5 o5))
    ·go_meet
     exact ⟨_,D4.out.setX (-1)⟩
    ·go_meet
     exact ⟨_,D4.out.setX (1000001)⟩
    ·go_meet
     exact ⟨_,D4.out.setX (1000002)⟩
   ·have wfl:IntKind.i64.wrap (E.K[i].fl+1)=E.K[i].fl+1:=by have:=HFL.out i hi2;rw [IntKind.wrap_i64];omega
    obtain ⟨gk',ha',hgz',hcs',hfz'⟩:=D.out.conns
    have hgg:gk'=gk:=by rw [HAK.out] at ha';injection ha' with e1;injection e1 with e2;exact e2.symm
    subst hgg
    obtain ⟨c0,c1,c2,c3,c4,c5,c6,_⟩:=hcs' i hi2
    have fj:=hfz' (i*14+6) (by omega)
    clear ha' hcs' hfz'
    go_wp2
    go_meet
    have hset:=D.out.setI (x:=E.K[i].fl+1) (j:=6) (c:={ E.K[i] with fl:=E.K[i].fl+1 }) HAK.out hi2 (by decide) rfl rfl
    exact ⟨_,hset⟩
   ·obtain ⟨gk',ha',hgz',hcs',hfz'⟩:=D.out.conns
    have hgg:gk'=gk:=by rw [HAK.out] at ha';injection ha' with e1;injection e1 with e2;exact e2.symm
    subst hgg
    obtain ⟨c0,c1,c2,c3,c4,c5,c6,_⟩:=hcs' i hi2
    have fj:=hfz' (i*14+3) (by omega)
    clear ha' hcs' hfz'
    go_wp2
    go_meet
    have hset:=D.out.setI (x:=3) (j:=3) (c:={ E.K[i] with k:=3 }) HAK.out hi2 (by decide) rfl rfl
    exact ⟨_,hset⟩
   ·have DN:Hid (D17 B a0 len cap b w (u2.alloc (.cells #[.int .i64 (-1),.int .i64 (0),.int .i64 (30)] 2)) q E):=D.out.next (zac _ _)
    go_wp2_with (first|(go_at_call 35;refine (zat _ DN.out.cur (Only.refl _ _) (by omega) (by omega)).mono ?_;rintro e u4 ⟨x5,rfl,hx5,k5,o5⟩;have D4:Hid (D17 B a0 len cap b w u4 q E):=DN.out.draw o5 k5;have hzb:=D.out.lt;have hzq:=D.out.oq;have hzg:=D.out.big;have t0:u4.cell? ⟨u2.heap.size,0,none⟩=some (.int .i64 (-1)):=(o5.cell (p:=⟨u2.heap.size,0,none⟩) (by simp) (by show u2.heap.size≠b;omega)).trans (by go_simp);have t1:u4.cell? ⟨u2.heap.size,1,none⟩=some (.int .i64 (0)):=(o5.cell (p:=⟨u2.heap.size,1,none⟩) (by simp) (by show u2.heap.size≠b;omega)).trans (by go_simp);have t2:u4.cell? ⟨u2.heap.size,2,none⟩=some (.int .i64 (30)):=(o5.cell (p:=⟨u2.heap.size,2,none⟩) (by simp) (by show u2.heap.size≠b;omega)).trans (by go_simp);obtain ⟨gk',ha',hgz',hcs',hfz'⟩:=D4.out.conns;have hgg:gk'=gk:=(by rw [HAK.out] at ha';injection ha' with e1;injection e1 with e2;exact e2.symm);subst hgg;obtain ⟨c0,c1,c2,c3,c4,c5,c6,_⟩:=hcs' i hi2;have fj:=hfz' (i*14+1) (by omega);clear ha' hcs' hfz';have hx5':x5=0∨x5=1∨x5=2:=(by omega);clear hx5;rcases hx5' with rfl|rfl|rfl;clear k5 o5))
    ·go_meet
     exact ⟨_,D4.out.setI (c:={ E.K[i] with lf:=-1 }) HAK.out hi2 (by decide) rfl rfl⟩
    ·go_meet
     exact ⟨_,D4.out.setI (c:={ E.K[i] with lf:=0 }) HAK.out hi2 (by decide) rfl rfl⟩
    ·go_meet
     exact ⟨_,D4.out.setI (c:={ E.K[i] with lf:=30 }) HAK.out hi2 (by decide) rfl rfl⟩
   ·have DN:Hid (D17 B a0 len cap b w (u2.alloc (.cells #[.int .i64 (-1),.int .i64 (10),.int .i64 (0)] 2)) q E):=D.out.next (zac _ _)
    go_wp2_with (first|(go_at_call 35;refine (zat _ DN.out.cur (Only.refl _ _) (by omega) (by omega)).mono ?_;rintro e u4 ⟨x5,rfl,hx5,k5,o5⟩;have D4:Hid (D17 B a0 len cap b w u4 q E):=DN.out.draw o5 k5;have hzb:=D.out.lt;have hzq:=D.out.oq;have hzg:=D.out.big;have t0:u4.cell? ⟨u2.heap.size,0,none⟩=some (.int .i64 (-1)):=(o5.cell (p:=⟨u2.heap.size,0,none⟩) (by simp) (by show u2.heap.size≠b;omega)).trans (by go_simp);have t1:u4.cell? ⟨u2.heap.size,1,none⟩=some (.int .i64 (10)):=(o5.cell (p:=⟨u2.heap.size,1,none⟩) (by simp) (by show u2.heap.size≠b;omega)).trans (by go_simp);have t2:u4.cell? ⟨u2.heap.size,2,none⟩=some (.int .i64 (0)):=(o5.cell (p:=⟨u2.heap.size,2,none⟩) (by simp) (by show u2.heap.size≠b;omega)).trans (by go_simp);obtain ⟨gk',ha',hgz',hcs',hfz'⟩:=D4.out.conns;have hgg:gk'=gk:=(by rw [HAK.out] at ha';injection ha' with e1;injection e1 with e2;exact e2.symm);subst hgg;obtain ⟨c0,c1,c2,c3,c4,c5,c6,_⟩:=hcs' i hi2;have fj:=hfz' (i*14+2) (by omega);clear ha' hcs' hfz';have hx5':x5=0∨x5=1∨x5=2:=(by omega);clear hx5;rcases hx5' with rfl|rfl|rfl;clear k5 o5))
    ·go_meet
     exact ⟨_,D4.out.setI (c:={ E.K[i] with pl:=-1 }) HAK.out hi2 (by decide) rfl rfl⟩
    ·go_meet
     exact ⟨_,D4.out.setI (c:={ E.K[i] with pl:=10 }) HAK.out hi2 (by decide) rfl rfl⟩
    ·go_meet
     exact ⟨_,D4.out.setI (c:={ E.K[i] with pl:=0 }) HAK.out hi2 (by decide) rfl rfl⟩
   ·obtain ⟨gk',ha',hgz',hcs',hfz'⟩:=D.out.conns
    have hgg:gk=gk':=by rw [HAK.out] at ha';injection ha' with e1;injection e1 with e2
    subst hgg
    obtain ⟨c0,c1,c2,c3,c4,c5,c6,c7,c8,c9,c10,c11,c12,sa,sc,c13⟩:=hcs' i hi2
    clear ha' hcs' hfz' c0 c1 c2 c3 c4 c5 c6 c7 c8 c9 c10 c11 c12
    obtain ⟨i0,hinf,hz0,hz1,hz2⟩:=info_parts zep
    have hxl:=HXL.out i hi2
    have hzb0:=D.out.lt
    go_upto_region 18 with (fail)
    refine zbk (S:=fun w'=>w'.cell? ⟨gk,i*14+13,none⟩=some (.slice sa E.K[i].xs.length sc)) 14 (by kernel_rfl) (by go_simp) (fun hS=>?_)
    refine zae 0 rfl ?_
    refine zae 1 rfl ?_
    refine zae 2 rfl ?_
    refine zae 3 rfl ?_
    refine zae 4 rfl ?_
    refine zae 6 rfl ?_
    refine zxy (i:=5) (j:=7) (by kernel_rfl) rfl rfl (fun Kr hKr=>?_) (fun Kr hKr=>?_)
    ·go_simp
     have DA:Hid (D17 B a0 len cap b w (u2.drew.alloc (.cells #[.int .i64 0,.int .i64 1501,.int .i64 5] 2)) q E):=D.out.next ((Below.refl _ _).drew.alloc (Nat.le_refl _) _)
     have hA:(u2.drew.alloc (.cells #[.int .i64 0,.int .i64 1501,.int .i64 5] 2)).cell? ⟨gk,i*14+13,none⟩=some (.slice sa E.K[i].xs.length sc):=((zac u2.drew _).cell (p:=⟨gk,i*14+13,none⟩) (by show gk<u2.heap.size;omega)).trans c13
     refine hKr.out _ _ hA (fun hS=>?_)
     try simp only [nrm]
     refine zai (i:=7) (by kernel_rfl) rfl (fun Kr hKr=>?_)
     go_simp
     (refine (zat 3 DA.out.cur (Only.refl _ _) (by omega) (by omega)).mono ?_;rintro e vT ⟨x4,rfl,hx4,kT,oT⟩;obtain ⟨X,rfl⟩:=Int.eq_ofNat_of_zero_le hx4.1;have hX:X<3:=(by omega);have hXi:(X:Int)<3:=(by omega);obtain ⟨yy,hy⟩:=zxv X hX;have DZ:Hid (D17 B a0 len cap b w vT q E):=DA.out.draw oT kT;have hcell:vT.cell? ⟨u2.heap.size,X,none⟩=some (.int .i64 yy):=(zms (w:=u2.drew) D.out.cur.hi oT X).trans hy;have hS:vT.cell? ⟨gk,i*14+13,none⟩=some (.slice sa E.K[i].xs.length sc):=(oT.cell (p:=⟨gk,i*14+13,none⟩) (by show gk<_;simp;omega) (by show gk≠b;omega)).trans hA;have zT:u2.heap.size≤vT.heap.size:=(by have q:=oT.size;simp at q;omega);simp only [])
     refine hKr.out _ _ ‹_› fun _=>?_
     try simp only [nrm]
     refine zae 8 rfl ?_
     refine zai (i:=9) (by kernel_rfl) rfl (fun Kr hKr=>?_)
     go_simp
     refine hKr.out _ _ ‹_› fun _=>?_
     try simp only [nrm]
     refine zai (i:=10) (by kernel_rfl) rfl (fun Kr hKr=>?_)
     go_simp
     have DV:Hid (D17 B a0 len cap b w (vT.alloc (.cells #[.int .i64 yy] 2)) q E):=DZ.out.next (zac _ _)
     have hV:(vT.alloc (.cells #[.int .i64 yy] 2)).cell? ⟨gk,i*14+13,none⟩=some (.slice sa E.K[i].xs.length sc):=((zac _ _).cell (p:=⟨gk,i*14+13,none⟩) (by show gk<vT.heap.size;have:=DZ.out.only.size;omega)).trans hS
     refine hKr.out _ _ hV (fun hS=>?_)
     try simp only [nrm]
     refine zai (i:=11) (by kernel_rfl) rfl (fun Kr hKr=>?_)
     rw [if_pos (by rfl)]
     refine zhq _ _ _ 45 rfl 0 2 i0 _ Tryz.underlying45 hinf hz0 hz1 hz2 rfl _ E.K[i].xs rfl (DV.out.sizes HAK.out hi2 hV) ⟨vT.heap.size,0,none⟩ 1 yy rfl (by go_simp) (by omega) (Nat.zero_le _) ?_
     intro v' w6 own6 o6 hw6
     obtain ⟨fa,fc,rfl⟩:=zay own6
     obtain ⟨UU,u6,uf⟩:=DV.out.app HAK.out hi2 hV own6 o6 hw6 (by omega)
     have UQ:Hid (D17 B a0 len cap b w (w6.setCell ⟨gk,i*14+13,none⟩ (.slice fa (E.K[i].xs.length+1) fc)) q { E with K:=E.K.set i (E.K[i].more yy) }):=UU
     clear UU
     have k6:w6.cell? ⟨gk,i*14+13,none⟩=some (.slice sa E.K[i].xs.length sc):=(u6 _).trans hV
     have kf:w6.frozen? ⟨gk,i*14+13,none⟩=false:=(uf _).trans (DV.out.free HAK.out (i*14+13) (by omega))
     clear u6 uf own6 o6 hw6
     refine hKr.out _ _ k6 (fun hS=>?_)
     try simp only [nrm]
     refine zai (i:=12) (by kernel_rfl) rfl (fun Kr hKr=>?_)
     go_simp
     refine hKr.out _ _ ‹_› fun _=>?_
     try simp only [nrm]
     refine zae 13 rfl ?_
     refine za4 (by kernel_rfl) rfl (by kernel_rfl) (fun Kr hKr=>?_)
     go_simp
     refine hKr.out _ _ ?_
     try simp only [nrm]
     repeat go_step
     go_meet
     exact ⟨_,UQ.out⟩
    ·go_simp
     (refine (zat 3 (D.out.next (Below.refl _ _).drew).cur (Only.refl _ _) (by omega) (by omega)).mono ?_;rintro e vT ⟨x4,rfl,hx4,kT,oT⟩;obtain ⟨X,rfl⟩:=Int.eq_ofNat_of_zero_le hx4.1;have hX:X<3:=(by omega);have hXi:(X:Int)<3:=(by omega);obtain ⟨yy,hy⟩:=zxv X hX;have D2:Hid (D17 B a0 len cap b w vT q E):=(D.out.next (Below.refl _ _).drew).draw oT kT;have hS:vT.cell? ⟨gk,i*14+13,none⟩=some (.slice sa E.K[i].xs.length sc):=(oT.cell (p:=⟨gk,i*14+13,none⟩) (by show gk<u2.heap.size;omega) (by show gk≠b;omega)).trans c13;simp only [])
     refine hKr.out _ _ ‹_› fun _=>?_
     try simp only [nrm]
     refine zai (i:=5) (by kernel_rfl) rfl (fun Kr hKr=>?_)
     go_simp
     have DZ0:Hid (D17 B a0 len cap b w (vT.alloc (.cells #[.int .i64 0,.int .i64 1501,.int .i64 5] 2)) q E):=D2.out.next (zac _ _)
     have hcell0:(vT.alloc (.cells #[.int .i64 0,.int .i64 1501,.int .i64 5] 2)).cell? ⟨vT.heap.size,X,none⟩=some (.int .i64 yy):=(World.cell?_alloc_at _ _ _ _ rfl).trans hy
     have hT0:(vT.alloc (.cells #[.int .i64 0,.int .i64 1501,.int .i64 5] 2)).cell? ⟨gk,i*14+13,none⟩=some (.slice sa E.K[i].xs.length sc):=((zac vT _).cell (p:=⟨gk,i*14+13,none⟩) (by show gk<vT.heap.size;have:=oT.size;have:u2.heap.size≤vT.heap.size:=this;omega)).trans hS
     have zU:=(zac vT (.cells #[.int .i64 0,.int .i64 1501,.int .i64 5] 2)).size
     have zT:u2.heap.size≤vT.heap.size:=oT.size
     obtain ⟨vU,hvU⟩:∃vU,vU=vT.alloc (.cells #[.int .i64 0,.int .i64 1501,.int .i64 5] 2):=⟨_,rfl⟩
     rw [←hvU] at DZ0 hcell0 hT0 zU ⊢
     have DZ:Hid (D17 B a0 len cap b w vU q E):=DZ0
     have hcell:=hcell0
     clear hvU DZ0 hcell0
     refine hKr.out _ _ hT0 (fun hS=>?_)
     try simp only [nrm]
     refine zae 8 rfl ?_
     refine zai (i:=9) (by kernel_rfl) rfl (fun Kr hKr=>?_)
     go_simp
     refine hKr.out _ _ ‹_› fun _=>?_
     try simp only [nrm]
     refine zai (i:=10) (by kernel_rfl) rfl (fun Kr hKr=>?_)
     go_simp
     have DV:Hid (D17 B a0 len cap b w (vU.alloc (.cells #[.int .i64 yy] 2)) q E):=DZ.out.next (zac _ _)
     have hV:(vU.alloc (.cells #[.int .i64 yy] 2)).cell? ⟨gk,i*14+13,none⟩=some (.slice sa E.K[i].xs.length sc):=((zac _ _).cell (p:=⟨gk,i*14+13,none⟩) (by show gk<vU.heap.size;have:=DZ.out.only.size;omega)).trans hS
     refine hKr.out _ _ hV (fun hS=>?_)
     try simp only [nrm]
     refine zai (i:=11) (by kernel_rfl) rfl (fun Kr hKr=>?_)
     rw [if_pos (by rfl)]
     refine zhq _ _ _ 45 rfl 0 2 i0 _ Tryz.underlying45 hinf hz0 hz1 hz2 rfl _ E.K[i].xs rfl (DV.out.sizes HAK.out hi2 hV) ⟨vU.heap.size,0,none⟩ 1 yy rfl (by go_simp) (by omega) (Nat.zero_le _) ?_
     intro v' w6 own6 o6 hw6
     obtain ⟨fa,fc,rfl⟩:=zay own6
     obtain ⟨UU,u6,uf⟩:=DV.out.app HAK.out hi2 hV own6 o6 hw6 (by omega)
     have UQ:Hid (D17 B a0 len cap b w (w6.setCell ⟨gk,i*14+13,none⟩ (.slice fa (E.K[i].xs.length+1) fc)) q { E with K:=E.K.set i (E.K[i].more yy) }):=UU
     clear UU
     have k6:w6.cell? ⟨gk,i*14+13,none⟩=some (.slice sa E.K[i].xs.length sc):=(u6 _).trans hV
     have kf:w6.frozen? ⟨gk,i*14+13,none⟩=false:=(uf _).trans (DV.out.free HAK.out (i*14+13) (by omega))
     clear u6 uf own6 o6 hw6
     refine hKr.out _ _ k6 (fun hS=>?_)
     try simp only [nrm]
     refine zai (i:=12) (by kernel_rfl) rfl (fun Kr hKr=>?_)
     go_simp
     refine hKr.out _ _ ‹_› fun _=>?_
     try simp only [nrm]
     refine zae 13 rfl ?_
     refine za4 (by kernel_rfl) rfl (by kernel_rfl) (fun Kr hKr=>?_)
     go_simp
     refine hKr.out _ _ ?_
     try simp only [nrm]
     repeat go_step
     go_meet
     exact ⟨_,UQ.out⟩
   ·have DN:Hid (D17 B a0 len cap b w (u2.alloc (.cells #[] 50)) q E):=D.out.next (zac _ _)
    have hnq:¬(q=u2.heap.size):=by have:=D.out.big;omega
    obtain ⟨q0,q1,q2,q3,q4,q5,q6⟩:=DN.out.var.c7
    have qf:=DN.out.var.free
    go_wp2
    go_meet
    exact ⟨_,(D.out.next (zac _ _)).setL _⟩
   ·obtain ⟨gk',ha',hgz',hcs',hfz'⟩:=D.out.conns
    have hgg:gk'=gk:=by rw [HAK.out] at ha';injection ha' with e1;injection e1 with e2;exact e2.symm
    subst hgg
    obtain ⟨c0,c1,c2,c3,c4,c5,c6,_⟩:=hcs' i hi2
    have fj:=hfz' (i*14+4) (by omega)
    clear ha' hcs' hfz'
    go_wp2
    go_meet
    have hset:=D.out.setI (x:=3000) (j:=4) (c:={ E.K[i] with wn:=3000 }) HAK.out hi2 (by decide) rfl rfl
    exact ⟨_,hset⟩
 case rest =>
  clear D HFL HXL hk40 hk0 HNW
  obtain ⟨E,d⟩:=hcut
  obtain ⟨z0,z1,z2,z3,z4,z5,z6⟩:=d.res.c7
  have zf:=d.res.free
  obtain ⟨t0,t1,t2,t3,t4,t5,t6⟩:=d.var.c7
  have D:Hid (D17 B a0 len cap b w wc q E):=d
  clear d
  go_wp2
  obtain ⟨u,hu',ou,U⟩:=st7 (b:=w.heap.size) D.out.res (.int .i64 E.now) (.slice E.aT E.T.length E.cT) (.slice E.aO E.O.length E.cO) (.slice E.aP E.P.length E.cP) (.slice E.aL E.L.length E.cL) (.slice E.aK E.K.length E.cK) (.int .i64 E.nx)
  rw [hu']
  clear hu'
  obtain ⟨fo,fc,fb⟩:=D.out.fin ou
  refine bodyPost_ret (zaj rfl _ _ _ _ rfl U.cell Tryz.underlying31 rfl (by kernel_rfl)) rfl ?_
  exact ⟨E,rfl,fo,D.out.sm,D.out.hk,fc,fb⟩
structure E17 (B:Nat) (a0:Option Addr) (len cap b:Nat) (w wr:World) (q:Nat) (E:EgR):Prop where
 cur:Cur B a0 len cap b wr
 bel:Below w.heap.size w wr
 rb:w.heap.size<b
 bq:b<q
 res:Lay wr w.heap.size [.int .i64 0,.slice none 0 0,.slice none 0 0,.slice none 0 0,.slice none 0 0,.slice none 0 0,.int .i64 0]
 var:Lay wr q [.int .i64 E.now,.slice E.aT E.T.length E.cT,.slice E.aO E.O.length E.cO,.slice E.aP E.P.length E.cP,.slice E.aL E.L.length E.cL,.slice E.aK E.K.length E.cK,.int .i64 E.nx]
 own:∃lo,E.ownQ wr lo q∧b<lo
 sm:Small E.T E.O E.P E.L E.K
 hk:E.K≠[]
section
variable {B:Nat} {a0:Option Addr} {len cap b:Nat} {w wr:World} {q:Nat} {E:EgR}
theorem E17.draw (d:E17 B a0 len cap b w wr q E) {w2:World} (o:Only b wr w2) (k:Cur B a0 len cap b w2):E17 B a0 len cap b w w2 q E:=by
 have h1:=d.rb
 have h2:=d.bq
 obtain ⟨lo,e,h3⟩:=d.own
 exact ⟨k,d.bel.trans (o.below (by omega) (by have:=d.bel.size;omega)),d.rb,d.bq,d.res.only o (by omega),d.var.only o (by omega),⟨lo,e.only o (.inl h3),h3⟩,d.sm,d.hk⟩
theorem E17.next (d:E17 B a0 len cap b w wr q E) {w2:World} (h:Below wr.heap.size wr w2):E17 B a0 len cap b w w2 q E:=d.draw (Only.of_below h) (d.cur.mono h)
theorem E17.fin {u:World} (d:E17 B a0 len cap b w wr q E) (o:Only w.heap.size wr u):E.own u w.heap.size u.heap.size∧Below w.heap.size w u:=by
 have h1:=d.rb
 have h2:=d.bq
 obtain ⟨lo,eo,h3⟩:=d.own
 exact ⟨(eo.own.only o (.inl (by omega))).wider (by omega) o.size,d.bel.trans (o.below (Nat.le_refl _) d.bel.size)⟩
theorem E17.turnP {p:Nat→Prop} {u:World} (d:E17 B a0 len cap b w wr q E) (E':EgR) (o:OnlyP p wr u) (hp:∀g,p g→b<g) (v:Lay u q [.int .i64 E'.now,.slice E'.aT E'.T.length E'.cT,.slice E'.aO E'.O.length E'.cO,.slice E'.aP E'.P.length E'.cP,.slice E'.aL E'.L.length E'.cL,.slice E'.aK E'.K.length E'.cK,.int .i64 E'.nx]) (own:∃lo,E'.ownQ u lo q∧b<lo) (sm:Small E'.T E'.O E'.P E'.L E'.K) (hk:E'.K≠[]):E17 B a0 len cap b w u q E':=by
 have h1:=d.rb
 have h2:=d.bq
 have h3:=d.var.lt
 have h4:=d.bel.size
 have hb:Below (b+1) wr u:=⟨o.os,o.tape,o.output,o.size,fun k hk=>o.block k (by omega) (fun e=>by have:=hp k e;omega)⟩
 exact ⟨d.cur.under hb (by omega),d.bel.trans (hb.mono (by omega)),h1,h2,d.res.block o.size (o.block _ (by omega) (fun e=>by have:=hp _ e;omega)),v,own,sm,hk⟩
theorem E17.rd (d:E17 B a0 len cap b w wr q E):E.Rd wr:=by
 obtain ⟨lo,e,_⟩:=d.own
 exact e.own.rd
theorem E17.sizes {gk i:Nat} {v:Value} (d:E17 B a0 len cap b w wr q E) (ha:E.aK=some ⟨gk,0,none⟩) (hi1:i<E.K.length) (hv:wr.cell? ⟨gk,i*14+13,none⟩=some v):(E.K[i].xs=[]∧∃a,v=.slice a 0 0)∨(E.K[i].xs≠[]∧wr.ownsRow 0 2 1 v E.K[i].xs.length (za7 E.K[i].xs)):=by
 obtain ⟨lo,e,_⟩:=d.own
 rcases e.sizes ha hi1 hv with r|⟨r1,r2⟩
 ·exact .inl r
 ·exact .inr ⟨r1,zcs r2 (Nat.zero_le _)⟩
theorem E17.at {gk i:Nat} (d:E17 B a0 len cap b w wr q E) (ha:E.aK=some ⟨gk,0,none⟩) (hi1:i<E.K.length):wr.cell? ⟨gk,i*14,none⟩=some (.int .i64 E.K[i].id)∧(∃sa sc,wr.cell? ⟨gk,i*14+13,none⟩=some (.slice sa E.K[i].xs.length sc))∧wr.frozen? ⟨gk,i*14+13,none⟩=false∧(b<gk∧gk<wr.heap.size∧gk≠q):=by
 obtain ⟨lo,⟨hi',uL,uK,ex,hn⟩,hlo⟩:=d.own
 obtain ⟨gk',ha',g0,g1,g2⟩:=ex.atK (by omega)
 have hgk:gk'=gk:=by rw [ha] at ha';injection ha' with e1;injection e1 with e2;exact e2.symm
 subst hgk
 rw [ha] at ex hn g2
 obtain ⟨_,ko,_⟩:=ex.ko (by omega)
 obtain ⟨sa,sc,c13,_⟩:=ex.con13 hi1
 exact ⟨(ex.con hi1).1,⟨sa,sc,c13⟩,(ko.any _ (by omega)).2,by omega,g1,fun e=>hn (by rw [←e];exact g2)⟩
theorem E17.first (d:E17 B a0 len cap b w wr q E):∃gk,E.aK=some ⟨gk,0,none⟩:=by
 have hk:1≤E.K.length:=List.length_pos_iff.2 d.hk
 obtain ⟨lo,⟨hi',uL,uK,ex,hn⟩,hlo⟩:=d.own
 obtain ⟨gk',ha',_⟩:=ex.atK (by omega)
 exact ⟨gk',ha'⟩
theorem E17.app {gk i:Nat} {v v':Value} {w1:World} {y:Int} (d:E17 B a0 len cap b w wr q E) (ha:E.aK=some ⟨gk,0,none⟩) (hi1:i<E.K.length) (hv:wr.cell? ⟨gk,i*14+13,none⟩=some v) (own:w1.ownsRow 0 2 1 v' (E.K[i].xs.length+1) (za7 E.K[i].xs ++ [.int .i64 y])) (o1:OnlyP (fun b=>elB v=some b) wr w1) (hw:∀b,elB v'=some b→elB v=some b∨wr.heap.size≤b) (hxl:E.K[i].xs.length+1≤1000) :
 E17 B a0 len cap b w (w1.setCell ⟨gk,i*14+13,none⟩ v') q { E with K:=E.K.set i (E.K[i].more y) }∧w1.cell? ⟨gk,i*14+13,none⟩=some v∧w1.frozen? ⟨gk,i*14+13,none⟩=false:=by
 obtain ⟨_,_,hfz,g0,g1,g2⟩:=d.at ha hi1
 obtain ⟨lo,e,h3⟩:=d.own
 obtain ⟨e1,o2,o3⟩:=e.app d.var.lt ha hi1 hv own o1 hw
 have hbk:=o3.block gk g1 (fun e=>e.2.2 rfl)
 refine ⟨?_,(World.cell?_of_block hbk).trans hv,(World.frozen?_of_block hbk).trans hfz⟩
 refine d.turnP { E with K:=E.K.set i (E.K[i].more y) } o2 (fun g e=>by omega) ?_ ⟨lo,e1,h3⟩ (d.sm.setK (by show (E.K[i].xs ++ [y]).length≤1000;rw [List.length_append];exact hxl)) (ziv d.hk)
 have v:=d.var.block o2.size (o2.block _ d.var.lt (fun e=>e.2 rfl))
 show Lay _ q [.int .i64 E.now,.slice E.aT E.T.length E.cT,.slice E.aO E.O.length E.cO,.slice E.aP E.P.length E.cP,.slice E.aL E.L.length E.cL,.slice E.aK (E.K.set i (E.K[i].more y)).length E.cK,.int .i64 E.nx]
 rw [List.length_set]
 exact v
theorem z2a {w1 w2:World} {t:TypeId} {q:Nat} (hq:w2.heap.size=q) (b1:Below w.heap.size w w1) (l1:Lay w1 w.heap.size [.int .i64 0,.slice none 0 0,.slice none 0 0,.slice none 0 0,.slice none 0 0,.slice none 0 0,.int .i64 0]) (rb:w.heap.size<b) (bz:b<w1.heap.size) (k2:Cur B a0 len cap b w2) (o2:Only b w1 w2) (eo:E.own w2 w1.heap.size w2.heap.size) (sm:Small E.T E.O E.P E.L E.K) (hk:E.K≠[]):E17 B a0 len cap b w (w2.alloc (.cells #[.int .i64 E.now,.slice E.aT E.T.length E.cT,.slice E.aO E.O.length E.cO,.slice E.aP E.P.length E.cP,.slice E.aL E.L.length E.cL,.slice E.aK E.K.length E.cK,.int .i64 E.nx] t)) q E:=by
 have hb:=zac w2 (.cells #[.int .i64 E.now,.slice E.aT E.T.length E.cT,.slice E.aO E.O.length E.cO,.slice E.aP E.P.length E.cP,.slice E.aL E.L.length E.cL,.slice E.aK E.K.length E.cK,.int .i64 E.nx] t)
 have z:=o2.size
 have z1:=b1.size
 have zb:=hb.size
 exact ⟨k2.mono hb,(b1.trans (o2.below (by omega) (by omega))).trans (hb.mono (by omega)),rb,by omega,(l1.only o2 (by omega)).next hb,zbs [.int .i64 E.now,.slice E.aT E.T.length E.cT,.slice E.aO E.O.length E.cO,.slice E.aP E.P.length E.cP,.slice E.aL E.L.length E.cL,.slice E.aK E.K.length E.cK,.int .i64 E.nx] t hq.symm,⟨w1.heap.size,(eo.next hb).toQ (.inr (by omega)),bz⟩,sm,hk⟩
end
def DE1 (w:World) (e:Ending) (w':World):Prop:=∃(E:EgR) (x:Int),e=.returned (.tuple #[zcp E.now E.aT E.T.length E.cT E.aO E.O.length E.cO E.aP E.P.length E.cP E.aL E.L.length E.cL E.aK E.K.length E.cK E.nx,.int .i64 x])∧E.own w' w.heap.size w'.heap.size∧Small E.T E.O E.P E.L E.K∧E.K≠[]∧Below w.heap.size w w'
theorem zl3 {B:Nat} {a0:Option Addr} {len:Nat} (cap:Nat) {w:World} (hs:len≤4096) (row:Row B a0 len w) (hB:B≤w.heap.size) :
 Calls Tryz.prog 29 #[.slice a0 len cap] w (DE1 w):=by
 obtain ⟨v,hv,lv,nb⟩:=ze8 w 31 [.int .i64 0,.slice none 0 0,.slice none 0 0,.slice none 0 0,.slice none 0 0,.slice none 0 0,.int .i64 0]
 have zv:=lv.lt
 have bx:Below B w v:=nb.mono hB
 go_enter Tryz.func29,Tryz.ntmps29
 go_upto_region 1 with (fail)
 rw [←hv]
 clear hv
 go_upto_region 3 with (first|(go_at_call 33;refine (z0n cap hs (row.mono bx) (by omega)).mono ?_;rintro e w1 ⟨b,rfl,hb,k1,hb1⟩;have l1:=lv.next hb1;have bw1:=zaa nb hb1;have hbz:=k1.hi)|(go_at_call 34;refine (zmo k1).mono ?_;rintro e w2 ⟨E,rfl,eo,sm,hkn,k2,o2⟩))
 obtain ⟨q,hq⟩:∃q,w2.heap.size=q:=⟨_,rfl⟩
 obtain ⟨x,hx⟩:∃x,w2.alloc (.cells #[.int .i64 E.now,.slice E.aT E.T.length E.cT,.slice E.aO E.O.length E.cO,.slice E.aP E.P.length E.cP,.slice E.aL E.L.length E.cL,.slice E.aK E.K.length E.cK,.int .i64 E.nx] 31)=x:=⟨_,rfl⟩
 have D:Hid (E17 B a0 len cap b w x q E):=by
  show E17 B a0 len cap b w x q E
  rw [←hx]
  exact z2a hq bw1 l1 (by omega) hbz k2 o2 eo sm hkn
 rw [hx,hq]
 clear hx hq eo sm hkn k2 o2 l1 k1
 have HS:Hid (∀w',E17 B a0 len cap b w w' q E→w'.cell? ⟨q,0,none⟩=some (.int .i64 E.now)∧w'.cell? ⟨q,1,none⟩=some (.slice E.aT E.T.length E.cT)∧w'.cell? ⟨q,2,none⟩=some (.slice E.aO E.O.length E.cO)∧w'.cell? ⟨q,3,none⟩=some (.slice E.aP E.P.length E.cP)∧w'.cell? ⟨q,4,none⟩=some (.slice E.aL E.L.length E.cL)∧w'.cell? ⟨q,5,none⟩=some (.slice E.aK E.K.length E.cK)∧w'.cell? ⟨q,6,none⟩=some (.int .i64 E.nx)):=fun w' d=>d.var.c7
 have DR:Hid (E17 B a0 len cap b w x.drew q E):=D.out.next (Below.refl _ _).drew
 refine zce HS DR.out fun hS=>?_
 refine zab 0 rfl ?_
 refine zab 1 rfl ?_
 refine zci 2 rfl fun Kr hKr=>?_
 go_simp
 (refine (zoo DR.out.cur (Only.refl _ _)).mono ?_;rintro e u1 ⟨m1,rfl,hm1,kk,oo⟩;have DR:Hid (E17 B a0 len cap b w u1 q E):=DR.out.draw oo kk;have hS:=HS.out _ DR.out;obtain ⟨z0,z1,z2,z3,z4,z5,z6⟩:=DR.out.res.c7;have zf:=DR.out.res.free)
 refine hKr.out _ _ ‹_› fun _=>?_
 try simp only [nrm]
 refine zci 3 rfl fun Kr hKr=>?_
 go_simp
 obtain ⟨u,hu',ou,U⟩:=st7 (b:=w.heap.size) DR.out.res (.int .i64 E.now) (.slice E.aT E.T.length E.cT) (.slice E.aO E.O.length E.cO) (.slice E.aP E.P.length E.cP) (.slice E.aL E.L.length E.cL) (.slice E.aK E.K.length E.cK) (.int .i64 E.nx)
 rw [hu']
 clear hu'
 have hrq:=DR.out.bq
 have hrb:=DR.out.rb
 have LU:=DR.out.var.only ou (by omega)
 refine hKr.out _ _ LU.c7 (fun hS=>?_)
 try simp only [nrm]
 refine zab 4 rfl ?_
 refine wpAnyH_done (by kernel_rfl) ?_ _
 go_wp2
 have zu:=ou.size
 obtain ⟨fo,fb⟩:=DR.out.fin ou
 refine bodyPost_ret (zak rfl _ _ _ _ rfl U.cell Tryz.underlying31 rfl (by kernel_rfl)) rfl ?_
 exact ⟨E,_,rfl,fo,D.out.sm,D.out.hk,fb⟩
end Go.Proofs.YthiojkjcmhojoaaGreat
