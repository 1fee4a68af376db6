import Derived.Test.YthiojkjcmhojoaaGreatGrpBN
namespace Go.Proofs.YthiojkjcmhojoaaGreat
set_option maxHeartbeats 8000000
open Go.ChangeShapes Go.WideShapes Go.ChangeAt Go.RowKit
set_option maxRecDepth 100000
set_option linter.unusedVariables false
set_option linter.unusedSimpArgs false
def wayK (i:Int) (K:List Kn):Nat:=(40-K.length)+K.countP (fun c=>decide (i≤c.id))
theorem way_le {i:Int} {K:List Kn} (h:K.length≤40):wayK i K≤40:=by
 unfold wayK
 have:=List.countP_le_length (p:=fun c:Kn=>decide (i≤c.id)) (l:=K)
 omega
theorem count_one {K:List Kn} {i:Int} (hn:∀k (h:k<K.length),K[k].id≠i):K.countP (fun c=>decide (i+1≤c.id))=K.countP (fun c=>decide (i≤c.id)):=by
 refine List.countP_congr fun c hc=>?_
 obtain ⟨k,hk,rfl⟩:=List.mem_iff_getElem.1 hc
 have:=hn k hk
 simp only [decide_eq_true_eq]
 omega
theorem count_less {i:Int}:∀{K:List Kn},(∃c ∈ K,c.id=i)→K.countP (fun c=>decide (i+1≤c.id))<K.countP (fun c=>decide (i≤c.id))
 | [],h=>by obtain ⟨c,hc,_⟩:=h;cases hc
 | c :: K,h=>by
  have hm:K.countP (fun c=>decide (i+1≤c.id))≤K.countP (fun c=>decide (i≤c.id)):=List.countP_mono_left fun x _ hx=>by
   simp only [decide_eq_true_eq] at hx ⊢
   omega
  rw [List.countP_cons,List.countP_cons]
  by_cases e:c.id=i
  ·rw [if_neg (by simp only [decide_eq_true_eq];omega),if_pos (by simp only [decide_eq_true_eq];omega)]
   omega
  ·have h':∃c ∈ K,c.id=i:=by
    obtain ⟨d,hd,hi⟩:=h
    rcases List.mem_cons.1 hd with rfl|hd
    ·exact absurd hi e
    ·exact ⟨d,hd,hi⟩
   have:=count_less h'
   by_cases q:i≤c.id
   ·rw [if_pos (by simp only [decide_eq_true_eq];omega),if_pos (by simp only [decide_eq_true_eq];omega)]
    omega
   ·rw [if_neg (by simp only [decide_eq_true_eq];omega),if_neg (by simp only [decide_eq_true_eq];omega)]
    omega
theorem count_ins {K:List Kn} {p:Nat} {c:Kn} {i:Int} (hc:c.id=i):(insAt K p c).countP (fun c=>decide (i+1≤c.id))=K.countP (fun c=>decide (i+1≤c.id)):=by
 unfold insAt
 rw [List.countP_append,List.countP_cons,if_neg (by simp only [decide_eq_true_eq];omega),Nat.add_zero,←List.countP_append,List.take_append_drop]
def OXPost (w:World) (E0:EgR) (id:Int) (e:Ending) (w':World):Prop:=∃(E:EgR) (f:Int),e=.returned (.tuple #[engV E.now E.aT E.T.length E.cT E.aO E.O.length E.cO E.aP E.P.length E.cP E.aL E.L.length E.cL E.aK E.K.length E.cK E.nx,.int .i64 f])∧E.own w' w.heap.size w'.heap.size∧E.ok∧E.T=E0.T∧E.L.length=E0.L.length∧E.K≠[]∧wayK (id+1) E.K<wayK id E0.K∧Below w.heap.size w w'
theorem ox_of {w:World} {now nx:Int} {T O P:List Q4} {L:List F8} {K:List Kn} {f id:Int} {E0:EgR} {e:Ending} {w':World} (h:EgPost w now nx T O P L K (.int .i64 f) e w') (ok:EgOk now nx T O P L K) (hT:T=E0.T) (hL:L.length=E0.L.length) (hK:K≠[]) (hw:wayK (id+1) K<wayK id E0.K):OXPost w E0 id e w':=by
 obtain ⟨aT,cT,aO,cO,aP,cP,aL,cL,aK,cK,he,eg,hb⟩:=h
 exact ⟨⟨now,nx,aT,aO,aP,aL,aK,cT,cO,cP,cL,cK,T,O,P,L,K⟩,f,he,eg,ok,hT,hL,hK,hw,hb⟩
theorem dOpnX {w:World} {lo hi:Nat} (E:EgR) (h:E.ok) (o:E.own w lo hi) {id lf pl kd:Int} (hn:inQ 0 id 1000000=true) (hlf:hasL E.T lf=true) (hpl:0≤pl∧pl<E.L.length) (hk:conK kd=true) (h40:E.K.length<40):Calls Tryz.prog 11 #[engV E.now E.aT E.T.length E.cT E.aO E.O.length E.cO E.aP E.P.length E.cP E.aL E.L.length E.cL E.aK E.K.length E.cK E.nx,.int .i64 id,.int .i64 lf,.int .i64 pl,.int .i64 kd] w (OXPost w E id):=by
 have r:=o.rd
 have z:=eg_szs h
 have h1:=eg_true h
 obtain ⟨p,hpe⟩:∃p:Nat,pl=(p:Int):=⟨pl.toNat,by omega⟩
 have hp:p<E.L.length:=by omega
 by_cases hf:fK E.K id = -1
 rotate_left 1
 ·obtain ⟨i,hi,hfi,hd⟩:=fK_some hf
  refine (specOpn_id1 E.now E.nx E.cT E.cO E.cP E.cL E.cK id lf pl kd r.t r.o r.p r.l r.k z.t z.l z.sl z.k z.sk h1 hn i hi hfi).mono fun e w' q=>ox_of q h rfl rfl (fun e=>by rw [e] at hi;cases hi) ?_
  have:=count_less (K:=E.K) (i:=id) ⟨_,List.getElem_mem hi,hd⟩
  unfold wayK
  omega
 ·have hl:=hlf
  unfold hasL at hl
  simp only [Bool.and_eq_true] at hl
  have hq:inQ 0 pl ((E.L.length:Int)-1)=true:=by
   unfold inQ
   simp only [Bool.and_eq_true,decide_eq_true_eq]
   omega
  obtain ⟨i,hpos⟩:=pos_ex E.K id h.rise (fK_notN hf)
  refine (specOpn_go E.now E.nx E.cT E.cO E.cP E.cL E.cK id lf pl kd r.t r.o r.p r.l r.k z.t z.l z.sl z.k z.sk h1 hf hn hl.1 hl.2 hq p hpe hp hk h40 i hpos).mono fun e w' q=>ox_of q (by rw [hpe];exact opn_right h hf hn hlf hp hk h40 hpos) rfl (by rw [List.length_set]) (fun e=>by
   have:=congrArg List.length e
   rw [insAt_length] at this
   cases this) ?_
  have a:=count_one (fK_notN hf)
  have b:=count_ins (K:=E.K) (p:=i) (c:=opnK id lf pl kd) (i:=id) rfl
  unfold wayK
  rw [b,insAt_length,a]
  omega
def DE4 (w:World) (e:Ending) (w':World):Prop:=∃(E:EgR) (x y z t:Int),e=.returned (.tuple #[engV E.now E.aT E.T.length E.cT E.aO E.O.length E.cO E.aP E.P.length E.cP E.aL E.L.length E.cL E.aK E.K.length E.cK E.nx,.int .i64 x,.int .i64 y,.int .i64 z,.int .i64 t])∧E.own w' w.heap.size w'.heap.size∧Small E.T E.O E.P E.L E.K∧E.K≠[]∧Below w.heap.size w w'
section
variable {P:Program}
theorem results_c5E {fn:Func} {p u1 u2 u3 u4:Tmp} {ty:TypeId} (h:fn.results=#[.cell p ty,.tmp u1,.tmp u2,.tmp u3,.tmp u4]) (tmps:Array Value) (w:World) (g:Nat) (cs:List Value) {d:TypeDesc}
 (hp:tmps.getD p undef=.pointer (some ⟨g,0,none⟩)) (hc:∀j v,cs[j]?=some v→w.cell? ⟨g,j,none⟩=some v)
 (hu:P.underlying ty=some d) (hd:(match d with|.struct _|.array _ _=>true|_=>false)=true) (hi:(P.info? ty).map (·.size)=some cs.length) :
 (results fn tmps).run P w=.ok (.tuple #[.agg cs.toArray,tmps.getD u1 undef,tmps.getD u2 undef,tmps.getD u3 undef,tmps.getD u4 undef]) w:=by
 have hp':tmps[p]?.getD undef=.pointer (some ⟨g,0,none⟩):=by simpa using hp
 have hl:=loadVar_cells (P:=P) w g 0 ty cs (fun j v hv=>by rw [Nat.zero_add];exact hc j v hv) hu hd hi
 simp [results,h,hp',asAddr,hl,Sem.run_bind,Result.andThen]
end
theorem E17.over {B:Nat} {a0:Option Addr} {len cap b:Nat} {w wr u:World} {q lo2 hi2:Nat} {E:EgR} (d:E17 B a0 len cap b w wr q E) (E2:EgR) (ow:E2.own wr lo2 hi2) (hq:q<lo2) (o:Only q wr u) (v:Lay u q [.int .i64 E2.now,.slice E2.aT E2.T.length E2.cT,.slice E2.aO E2.O.length E2.cO,.slice E2.aP E2.P.length E2.cP,.slice E2.aL E2.L.length E2.cL,.slice E2.aK E2.K.length E2.cK,.int .i64 E2.nx]) (sm:Small E2.T E2.O E2.P E2.L E2.K) (hk:E2.K≠[]):E17 B a0 len cap b w u q E2 :=
 d.turnP E2 (OnlyP.ofOnly (p:=fun b=>b=q) o rfl) (fun g e=>by rw [e];exact d.bq) v ⟨lo2,EgR.ownQ.only (ow.toQ (.inl hq)) o (.inr rfl),by have:=d.bq;omega⟩ sm hk
theorem drawOpen_any {B:Nat} {a0:Option Addr} {len:Nat} (cap:Nat) {w:World} (hs:len≤4096) (row:Row B a0 len w) (hB:B≤w.heap.size) :
 Calls Tryz.prog 9 #[.slice a0 len cap] w (DE4 w):=by
 obtain ⟨v,hv,lv,nb⟩:=new1 w 31 [.int .i64 0,.slice none 0 0,.slice none 0 0,.slice none 0 0,.slice none 0 0,.slice none 0 0,.int .i64 0]
 have zv:=lv.lt
 have bx:Below B w v:=nb.mono hB
 go_enter Tryz.func9,Tryz.ntmps9
 go_upto_region 1 with (fail)
 rw [←hv]
 clear hv
 go_upto_region 3 with (first|(go_at_call 33;refine (new_any cap hs (row.mono bx) (by omega)).mono ?_;rintro e w1 ⟨b,rfl,hb,k1,hb1⟩;have l1:=lv.next hb1;have bw1:=below_two nb hb1;have hbz:=k1.hi)|(go_at_call 34;refine (l14DrawAny_acc k1).mono ?_;rintro e w2 ⟨E,rfl,eo,sm,hkn,k2,o2⟩))
 obtain ⟨q,hq⟩:∃q,w2.heap.size=q:=⟨_,rfl⟩
 obtain ⟨x,hx⟩:∃x,w2.alloc (.cells #[.int .i64 E.now,.slice E.aT E.T.length E.cT,.slice E.aO E.O.length E.cO,.slice E.aP E.P.length E.cP,.slice E.aL E.L.length E.cL,.slice E.aK E.K.length E.cK,.int .i64 E.nx] 31)=x:=⟨_,rfl⟩
 have D:Hid (E17 B a0 len cap b w x q E):=by
  show E17 B a0 len cap b w x q E
  rw [←hx]
  exact e17_new hq bw1 l1 (by omega) hbz k2 o2 eo sm hkn
 rw [hx,hq]
 clear hx hq eo sm hkn k2 o2 l1 k1
 obtain ⟨t0,t1,t2,t3,t4,t5,t6⟩:=D.out.var.c7
 go_upto_region 4 with (first|(go_at_call 35;refine (below_acc _ D.out.cur (Only.refl _ _) (by omega) (by omega)).mono ?_;rintro e u1 ⟨x1,rfl,hx1,kk,oo⟩;have DI:Hid (E17 B a0 len cap b w u1 q E):=D.out.draw oo kk;clear t0 t1 t2 t3 t4 t5 t6;obtain ⟨t0,t1,t2,t3,t4,t5,t6⟩:=DI.out.var.c7;clear kk oo))
 go_upto_if 22 with (first|(go_at_call 36;refine (once_acc _ DI.out.cur (Only.refl _ _) (by omega) (by omega)).mono ?_;rintro e u2 ⟨f3,rfl,kk,oo⟩;have DO:Hid (E17 B a0 len cap b w u2 q E):=DI.out.draw oo kk;clear t0 t1 t2 t3 t4 t5 t6;obtain ⟨t0,t1,t2,t3,t4,t5,t6⟩:=DO.out.var.c7;clear kk oo))
 go_cut [9] from 23 to 25 (fun s wd=>∃x:Int,s=.int .i64 x∧E17 B a0 len cap b w wd q E)
 case first =>
  cases f3
  ·go_wp2
   go_meet
   exact ⟨_,rfl,DO.out⟩
  ·go_wp2_with (first|(go_at_call 37;obtain ⟨lo',eq',hlo'⟩:=DO.out.own;have eo':=eq'.own;refine (l14DrawId_acc DO.out.cur E eo' hlo' DO.out.hk DO.out.sm).mono ?_;rintro e u3 ⟨m1,rfl,kk,oo⟩;have DQ:Hid (E17 B a0 len cap b w u3 q E):=DO.out.draw oo kk;clear eq' eo' hlo' kk oo;clear t0 t1 t2 t3 t4 t5 t6;obtain ⟨t0,t1,t2,t3,t4,t5,t6⟩:=DQ.out.var.c7))
   go_meet
   exact ⟨_,rfl,DQ.out⟩
 case rest =>
  clear D DI DO t0 t1 t2 t3 t4 t5 t6
  obtain ⟨id0,rfl,d⟩:=hcut
  have D:Hid (E17 B a0 len cap b w wc q E):=d
  clear d
  obtain ⟨t0,t1,t2,t3,t4,t5,t6⟩:=D.out.var.c7
  go_upto_region 8 with (first|(go_at_call 38;refine (from_acc _ _ D.out.cur (Only.refl _ _) (by decide) (by decide) (by decide)).mono ?_;rintro e u3 ⟨x3,rfl,hx3,kk,oo⟩;have DF:Hid (E17 B a0 len cap b w u3 q E):=D.out.draw oo kk;clear t0 t1 t2 t3 t4 t5 t6;obtain ⟨t0,t1,t2,t3,t4,t5,t6⟩:=DF.out.var.c7;clear kk oo)|(go_at_call 39;refine (specLeaves_any E.cT DF.out.rd.t (Nat.le_trans DF.out.sm.t (by decide))).mono ?_;rintro e u4 ⟨la,ln,lc,rfl,ivL,hb4⟩;have nz:=iv_lenC ivL;subst nz;have DL:Hid (E17 B a0 len cap b w u4 q E):=DF.out.next hb4;have IL:Hid (IV u4 (q+1) (.slice la (leavesOf E.T).length lc) (leavesOf E.T)):=ivL.lower (by have:=DF.out.var.lt;omega);clear t0 t1 t2 t3 t4 t5 t6;obtain ⟨t0,t1,t2,t3,t4,t5,t6⟩:=DL.out.var.c7;clear ivL hb4))
  have hvl:=leavesOf_length E.T
  obtain ⟨vs,hvs⟩:∃vs,leavesOf E.T=vs:=⟨_,rfl⟩
  have HVS:Hid (leavesOf E.T=vs):=hvs
  rw [hvs] at IL hvl ⊢
  clear hvs
  clear D DF
  have D:=DL
  clear DL
  go_cut [39] from 32 to 39 (fun s wd=>∃f:Bool,s=.bool f∧E17 B a0 len cap b w wd q E∧IV wd (q+1) (.slice la vs.length lc) vs∧(f=true→0<vs.length))
  case first =>
   by_cases hv0:0<vs.length
   ·have hv0':(0:Int)<(vs.length:Int):=by omega
    go_wp2_with (first|(go_at_call 36;refine (once_acc _ D.out.cur (Only.refl _ _) (by omega) (by omega)).mono ?_;rintro e u5 ⟨f5,rfl,kk,oo⟩;have DO:Hid (E17 B a0 len cap b w u5 q E):=D.out.draw oo kk;have IL:Hid (IV u5 (q+1) (.slice la vs.length lc) vs):=IL.out.only14 oo (by have:=D.out.bq;omega);clear t0 t1 t2 t3 t4 t5 t6;obtain ⟨t0,t1,t2,t3,t4,t5,t6⟩:=DO.out.var.c7;clear kk oo;cases f5))
    ·go_meet
     exact ⟨_,rfl,DO.out,IL.out,fun _=>hv0⟩
    ·go_meet
     exact ⟨_,rfl,DO.out,IL.out,fun _=>hv0⟩
   ·have hv0':¬(0:Int)<(vs.length:Int):=by omega
    go_wp2
    go_meet
    exact ⟨_,rfl,D.out,IL.out,fun h=>by cases h⟩
  case rest =>
  clear D IL t0 t1 t2 t3 t4 t5 t6
  obtain ⟨f8,rfl,d,il,hv8⟩:=hcut
  have DO:Hid (E17 B a0 len cap b w wc q E):=d
  have IL:Hid (IV wc (q+1) (.slice la vs.length lc) vs):=il
  have HV8:Hid (f8=true→0<vs.length):=hv8
  clear d il hv8
  obtain ⟨wd0,hwd0⟩:∃u,u=wc:=⟨_,rfl⟩
  subst hwd0
  go_upto_if 39 with (fail)
  go_cut [10] from 40 to 46 (fun s wd=>∃x:Int,s=.int .i64 x∧E17 B a0 len cap b w wd q E∧IV wd (q+1) (.slice la vs.length lc) vs)
  case first =>
   cases f8
   ·go_wp2
    go_meet
    exact ⟨_,rfl,DO.out,IL.out⟩
   ·have hv0:=HV8.out rfl
    go_wp2_with (first|(go_at_call 35;refine (below_acc (vs.length:Int) DO.out.cur (Only.refl _ _) (by omega) (by omega)).mono ?_;rintro e u6 ⟨m2,rfl,hm2,kk,oo⟩;have DB:Hid (E17 B a0 len cap b w u6 q E):=DO.out.draw oo kk;have IL:Hid (IV u6 (q+1) (.slice la vs.length lc) vs):=IL.out.only14 oo (by have:=DO.out.bq;omega);obtain ⟨i,hie⟩:∃i:Nat,m2=(i:Int):=⟨m2.toNat,by omega⟩;subst hie;have hi2:i<vs.length:=(by omega);have hi0:(0:Int)≤(i:Int):=(by omega);have hi3:(i:Int)<(vs.length:Int):=(by omega);obtain ⟨gl,ol,hla,_,ci⟩:=IL.out.smp2 i hi2;subst hla;clear kk oo))
    go_meet
    exact ⟨_,rfl,DB.out,IL.out⟩
  case rest =>
   clear DO IL HV8
   obtain ⟨leaf0,rfl,d,il⟩:=hcut
   have D:Hid (E17 B a0 len cap b w wc q E):=d
   have IL:Hid (IV wc (q+1) (.slice la vs.length lc) vs):=il
   clear d il
   obtain ⟨t0,t1,t2,t3,t4,t5,t6⟩:=D.out.var.c7
   have hl100:=D.out.sm.l
   have wll:IntKind.i64.wrap ((E.L.length:Int)+1)=(E.L.length:Int)+1:=by rw [IntKind.wrap_i64];omega
   go_upto_region 12 with (first|(go_at_call 35;refine (below_acc _ DP.out.cur (Only.refl _ _) (by omega) (by omega)).mono ?_;rintro e u8 ⟨x8,rfl,hx8,kk,oo⟩;have DK:Hid (E17 B a0 len cap b w u8 q E):=DP.out.draw oo kk;have IL:Hid (IV u8 (q+1) (.slice la vs.length lc) vs):=IL.out.only14 oo (by have:=DP.out.bq;omega);clear t0 t1 t2 t3 t4 t5 t6;obtain ⟨t0,t1,t2,t3,t4,t5,t6⟩:=DK.out.var.c7;clear kk oo;have wx8:IntKind.i64.wrap (1+x8)=1+x8:=(by rw [IntKind.wrap_i64];omega))|(go_at_call 35;refine (below_acc ((E.L.length:Int)+1) D.out.cur (Only.refl _ _) (by omega) (by omega)).mono ?_;rintro e u7 ⟨x7,rfl,hx7,kk,oo⟩;have DP:Hid (E17 B a0 len cap b w u7 q E):=D.out.draw oo kk;have IL:Hid (IV u7 (q+1) (.slice la vs.length lc) vs):=IL.out.only14 oo (by have:=D.out.bq;omega);clear t0 t1 t2 t3 t4 t5 t6;obtain ⟨t0,t1,t2,t3,t4,t5,t6⟩:=DP.out.var.c7;clear kk oo))
   go_upto_if 57 with (first|(go_at_call 36;refine (once_acc _ DK.out.cur (Only.refl _ _) (by omega) (by omega)).mono ?_;rintro e u9 ⟨f9,rfl,kk,oo⟩;have DO:Hid (E17 B a0 len cap b w u9 q E):=DK.out.draw oo kk;have IL:Hid (IV u9 (q+1) (.slice la vs.length lc) vs):=IL.out.only14 oo (by have:=DK.out.bq;omega);clear t0 t1 t2 t3 t4 t5 t6;obtain ⟨t0,t1,t2,t3,t4,t5,t6⟩:=DO.out.var.c7;clear kk oo))
   go_cut [13] from 58 to 59 (fun s wd=>∃x:Int,s=.int .i64 x∧E17 B a0 len cap b w wd q E∧IV wd (q+1) (.slice la vs.length lc) vs)
   case first =>
    cases f9
    ·go_wp2
     go_meet
     exact ⟨_,rfl,DO.out,IL.out⟩
    ·go_wp2_with (first|(go_at_call 38;refine (from_acc _ _ DO.out.cur (Only.refl _ _) (by decide) (by decide) (by decide)).mono ?_;rintro e u3 ⟨x3,rfl,hx3,kk,oo⟩;have DF:Hid (E17 B a0 len cap b w u3 q E):=DO.out.draw oo kk;have IL:Hid (IV u3 (q+1) (.slice la vs.length lc) vs):=IL.out.only14 oo (by have:=DO.out.bq;omega);clear t0 t1 t2 t3 t4 t5 t6;obtain ⟨t0,t1,t2,t3,t4,t5,t6⟩:=DF.out.var.c7;clear kk oo))
     go_meet
     exact ⟨_,rfl,DF.out,IL.out⟩
   case rest =>
    clear D DP DK DO IL t0 t1 t2 t3 t4 t5 t6
    obtain ⟨kd0,rfl,d,il⟩:=hcut
    have D:Hid (E17 B a0 len cap b w wc q E):=d
    have IL:Hid (IV wc (q+1) (.slice la vs.length lc) vs):=il
    clear d il
    obtain ⟨t0,t1,t2,t3,t4,t5,t6⟩:=D.out.var.c7
    obtain ⟨f9,hf9⟩:∃f,engB E.now E.nx E.T E.O E.P E.L E.K=f:=⟨_,rfl⟩
    have HB:Hid (engB E.now E.nx E.T E.O E.P E.L E.K=f9):=hf9
    clear hf9
    go_upto_region 14 with (fail)
    go_cut [70] from 60 to 70 (fun s wd=>∃f:Bool,s=.bool f∧E17 B a0 len cap b w wd q E∧IV wd (q+1) (.slice la vs.length lc) vs∧(f=true→engB E.now E.nx E.T E.O E.P E.L E.K=true∧0<vs.length))
    case first =>
     by_cases hv0:0<vs.length
     ·have hv0':(0:Int)<(vs.length:Int):=by omega
      go_wp2_with (first|(go_at_call 36;refine (once_acc _ D.out.cur (Only.refl _ _) (by omega) (by omega)).mono ?_;rintro e u2 ⟨f3,rfl,kk,oo⟩;have DO:Hid (E17 B a0 len cap b w u2 q E):=D.out.draw oo kk;have IL:Hid (IV u2 (q+1) (.slice la vs.length lc) vs):=IL.out.only14 oo (by have:=D.out.bq;omega);clear t0 t1 t2 t3 t4 t5 t6;obtain ⟨t0,t1,t2,t3,t4,t5,t6⟩:=DO.out.var.c7;clear kk oo;cases f3)|(go_at_call 40;obtain ⟨rT,rO,rP,rL,rK⟩:=DO.out.rd;refine (specEngineOk_is _ _ _ _ _ HB.out rT rO rP rL rK (Nat.le_trans DO.out.sm.t (by decide)) (Nat.le_trans DO.out.sm.l (by decide)) (Nat.le_trans DO.out.sm.k (by decide)) (fun c hc=>Nat.le_trans (DO.out.sm.km c hc) (by decide))).mono ?_;rintro e u3 ⟨rfl,hb3⟩;have DQ:Hid (E17 B a0 len cap b w u3 q E):=DO.out.next hb3;have IL:Hid (IV u3 (q+1) (.slice la vs.length lc) vs):=IL.out.next hb3;clear rT rO rP rL rK;clear t0 t1 t2 t3 t4 t5 t6;obtain ⟨t0,t1,t2,t3,t4,t5,t6⟩:=DQ.out.var.c7;cases f9))
      ·go_meet
       exact ⟨_,rfl,DO.out,IL.out,fun h=>by cases h⟩
      ·go_meet
       exact ⟨_,rfl,DQ.out,IL.out,fun h=>by cases h⟩
      ·go_meet
       exact ⟨_,rfl,DQ.out,IL.out,fun _=>⟨HB.out,hv0⟩⟩
     ·have hv0':¬(0:Int)<(vs.length:Int):=by omega
      go_wp2_with (first|(go_at_call 36;refine (once_acc _ D.out.cur (Only.refl _ _) (by omega) (by omega)).mono ?_;rintro e u2 ⟨f3,rfl,kk,oo⟩;have DO:Hid (E17 B a0 len cap b w u2 q E):=D.out.draw oo kk;have IL:Hid (IV u2 (q+1) (.slice la vs.length lc) vs):=IL.out.only14 oo (by have:=D.out.bq;omega);clear t0 t1 t2 t3 t4 t5 t6;obtain ⟨t0,t1,t2,t3,t4,t5,t6⟩:=DO.out.var.c7;clear kk oo;cases f3)|(go_at_call 40;obtain ⟨rT,rO,rP,rL,rK⟩:=DO.out.rd;refine (specEngineOk_is _ _ _ _ _ HB.out rT rO rP rL rK (Nat.le_trans DO.out.sm.t (by decide)) (Nat.le_trans DO.out.sm.l (by decide)) (Nat.le_trans DO.out.sm.k (by decide)) (fun c hc=>Nat.le_trans (DO.out.sm.km c hc) (by decide))).mono ?_;rintro e u3 ⟨rfl,hb3⟩;have DQ:Hid (E17 B a0 len cap b w u3 q E):=DO.out.next hb3;have IL:Hid (IV u3 (q+1) (.slice la vs.length lc) vs):=IL.out.next hb3;clear rT rO rP rL rK;clear t0 t1 t2 t3 t4 t5 t6;obtain ⟨t0,t1,t2,t3,t4,t5,t6⟩:=DQ.out.var.c7;cases f9))
      ·go_meet
       exact ⟨_,rfl,DO.out,IL.out,fun h=>by cases h⟩
      ·go_meet
       exact ⟨_,rfl,DQ.out,IL.out,fun h=>by cases h⟩
      ·go_meet
       exact ⟨_,rfl,DQ.out,IL.out,fun h=>by cases h⟩
    case rest =>
    clear D IL HB t0 t1 t2 t3 t4 t5 t6
    obtain ⟨f8,rfl,d,il,hb8⟩:=hcut
    have DQ:Hid (E17 B a0 len cap b w wc q E):=d
    have IL:Hid (IV wc (q+1) (.slice la vs.length lc) vs):=il
    have HB:Hid (f8=true→engB E.now E.nx E.T E.O E.P E.L E.K=true∧0<vs.length):=hb8
    clear d il hb8
    obtain ⟨u3,hu3⟩:∃u,u=wc:=⟨_,rfl⟩
    subst hu3
    obtain ⟨t0,t1,t2,t3,t4,t5,t6⟩:=DQ.out.var.c7
    go_upto_if 70 with (fail)
    go_cut [14] from 71 to 85 (fun _ wd=>∃E,E17 B a0 len cap b w wd q E)
    case first =>
     cases f8
     ·go_wp2
      go_meet
      exact ⟨E,DQ.out⟩
     ·have ok:=eg_yes (HB.out rfl).1
      have hv0:=(HB.out rfl).2
      have hv0':(0:Int)<(vs.length:Int):=by omega
      obtain ⟨gl,ol,hla,hgl,ci⟩:=IL.out.smp2 0 hv0
      subst hla
      obtain ⟨lf,hlf⟩:∃lf,vs[0]=lf:=⟨_,rfl⟩
      rw [Nat.add_zero,hlf] at ci
      have hcode:treeCode E.T=0:=by
       have q:=HVS.out
       unfold leavesOf at q
       split at q
       ·assumption
       ·rw [←q] at hv0;cases hv0
      have HLF:Hid (hasL E.T lf=true):=leaves_hasL hcode lf (by rw [HVS.out,←hlf];exact List.getElem_mem hv0)
      have HX:Hid (∃(j:Nat) (E':EgR),Value.int .i64 100=.int .i64 (100+(j:Int))∧82+j=82∧wayK (100+(j:Int)) E'.K<82∧E'.ok∧hasL E'.T lf=true∧Hid (E17 B a0 len cap b w u3 q E')∧Hid (IV u3 (q+1) (.slice (some ⟨gl,ol,none⟩) vs.length lc) vs)):=⟨0,E,by simp,rfl,by have:=way_le (i:=100+((0:Nat):Int)) ok.k1;omega,ok,HLF.out,DQ,IL⟩
      have HL0:Hid (∀h:0<vs.length,vs[0]=lf):=fun _=>hlf
      have HGL:Hid (gl<u3.heap.size∧u3.cell? ⟨gl,ol,none⟩=some (.int .i64 lf)):=⟨hgl,ci⟩
      clear hlf hcode ok HLF ci hgl t0 t1 t2 t3 t4 t5 t6
      go_wp2
      go_loopg [14] 82 (fun kk i wr=>∃(j:Nat) (E':EgR),i=.int .i64 (100+(j:Int))∧kk+j=82∧wayK (100+(j:Int)) E'.K<kk∧E'.ok∧hasL E'.T lf=true∧Hid (E17 B a0 len cap b w wr q E')∧Hid (IV wr (q+1) (.slice (some ⟨gl,ol,none⟩) vs.length lc) vs))
      case atStart=>exact HX.out
      case round =>
       clear HX IL DQ HVS HB HGL
       obtain ⟨j,E,rfl,hkj,hway,hok,hlf,D,IL⟩:=hrel
       have HMS:Hid (gk+j=82∧wayK (100+(j:Int)) E.K<gk):=⟨hkj,hway⟩
       have HOK:Hid E.ok:=hok
       have HLF:Hid (hasL E.T lf=true):=hlf
       have hv0'':=hv0
       obtain ⟨gl',ol',hla,hgl,ci⟩:=IL.out.smp2 0 hv0
       injection hla with hla
       injection hla with hl1 hl2 _
       subst hl1 hl2
       rw [Nat.add_zero,HL0.out hv0] at ci
       obtain ⟨t0,t1,t2,t3,t4,t5,t6⟩:=D.out.var.c7
       by_cases h40:E.K.length<40
       ·have h40':(E.K.length:Int)<40:=by omega
        have HK4:Hid (E.K.length<40):=h40
        have HIN:Hid (inQ 0 (100+(j:Int)) 1000000=true):=by
         show inQ 0 (100+(j:Int)) 1000000=true
         unfold inQ
         simp only [Bool.and_eq_true,decide_eq_true_eq]
         omega
        have HPL:Hid ((0:Int)≤0∧(0:Int)<E.L.length):=⟨by omega,by have:=hok.l0;omega⟩
        have HGZ:Hid (gl<wr.heap.size):=hgl
        have HS:Hid (∀w',E17 B a0 len cap b w w' q E→w'.cell? ⟨gl,ol,none⟩=some (.int .i64 lf)→(w'.cell? ⟨q,0,none⟩=some (.int .i64 E.now)∧w'.cell? ⟨q,1,none⟩=some (.slice E.aT E.T.length E.cT)∧w'.cell? ⟨q,2,none⟩=some (.slice E.aO E.O.length E.cO)∧w'.cell? ⟨q,3,none⟩=some (.slice E.aP E.P.length E.cP)∧w'.cell? ⟨q,4,none⟩=some (.slice E.aL E.L.length E.cL)∧w'.cell? ⟨q,5,none⟩=some (.slice E.aK E.K.length E.cK)∧w'.cell? ⟨q,6,none⟩=some (.int .i64 E.nx))∧w'.cell? ⟨gl,ol,none⟩=some (.int .i64 lf)):=fun w' d c=>⟨d.var.c7,c⟩
        have wij:IntKind.i64.wrap (100+(j:Int)+1)=100+(j:Int)+1:=by rw [IntKind.wrap_i64];omega
        have CI:Hid (wr.cell? ⟨gl,ol,none⟩=some (.int .i64 lf)):=ci
        clear hkj hway hok hlf hgl ci h40
        go_upto_region 18 with (fail)
        have DR:Hid (E17 B a0 len cap b w wr.drew q E):=D.out.next (Below.refl _ _).drew
        clear t0 t1 t2 t3 t4 t5 t6
        refine tillQ2 9 HS DR.out CI.out fun hS=>?_
        refine tillR 0 rfl ?_
        try simp only [nrm]
        refine tillP 1 rfl ?_
        try simp only [nrm]
        refine tillP 2 rfl ?_
        try simp only [nrm]
        refine tillP 3 rfl ?_
        try simp only [nrm]
        refine tillV 4 (v:=.int .i64 lf) rfl ?_ ?_
        ·(intro w' hSw;(try dsimp only at hSw);(have c:=hSw.2;go_simp))
        try simp only [nrm]
        refine tillC 5 rfl fun Kr hKr=>?_
        go_simp
        (obtain ⟨lo',eq',hlo'⟩:=DR.out.own;have eo':=eq'.own;refine (dOpnX E HOK.out eo' HIN.out HLF.out HPL.out (by rfl) HK4.out).mono ?_;rintro e u5 ⟨E2,f2,rfl,ow2,ok2,hT2,hL2,hK2,hw2,hb5⟩;have D5:Hid (E17 B a0 len cap b w u5 q E):=DR.out.next hb5;have IL5:Hid (IV u5 (q+1) (.slice (some ⟨gl,ol,none⟩) vs.length lc) vs):=IL.out.next (undrewE hb5);have OW2:Hid (E2.own u5 wr.drew.heap.size u5.heap.size):=ow2;have hS:=HS.out _ D5.out (((undrewE hb5).cell (p:=⟨gl,ol,none⟩) (by have:=HGZ.out;show gl<wr.heap.size;omega)).trans CI.out);obtain ⟨z0,z1,z2,z3,z4,z5,z6⟩:=D5.out.var.c7;have zf:=D5.out.var.free;have HT2:Hid (E2.T=E.T):=hT2;have HL2:Hid (E2.L.length=E.L.length):=hL2;have HK2:Hid (E2.K≠[]):=hK2;have HW2:Hid (wayK ((100+(j:Int))+1) E2.K<wayK (100+(j:Int)) E.K):=hw2;have HOK2:Hid E2.ok:=ok2;clear hT2 hL2 hK2 hw2 ow2 ok2 hb5 eq' eo' hlo')
        refine hKr.out _ _ ‹_› fun _=>?_
        try simp only [nrm]
        refine tillP 6 rfl ?_
        try simp only [nrm]
        refine tillP 7 rfl ?_
        try simp only [nrm]
        refine tillP 8 rfl ?_
        try simp only [nrm]
        refine tillL rfl fun Kr hKr=>?_
        go_simp
        refine hKr.out _ _ ?_
        try simp only [nrm]
        obtain ⟨y,hy',oy,ly⟩:=st7 (b:=q) D5.out.var (.int .i64 E2.now) (.slice E2.aT E2.T.length E2.cT) (.slice E2.aO E2.O.length E2.cO) (.slice E2.aP E2.P.length E2.cP) (.slice E2.aL E2.L.length E2.cL) (.slice E2.aK E2.K.length E2.cK) (.int .i64 E2.nx)
        rw [hy']
        clear hy' z0 z1 z2 z3 z4 z5 z6 zf
        have DY:Hid (E17 B a0 len cap b w y q E2):=D5.out.over E2 OW2.out (by have:=D.out.var.lt;show q<wr.heap.size;omega) oy ly (eg_small HOK2.out) HK2.out
        have IY:Hid (IV y (q+1) (.slice (some ⟨gl,ol,none⟩) vs.length lc) vs):=IL5.out.only14 oy (by omega)
        go_wp2
        go_roundg (gk-1)
        case measure=>have:=HMS.out;omega
        case rel=>exact ⟨j+1,E2,by go_num,by have:=HMS.out;omega,by have:=HMS.out;have:=HW2.out;push_cast;rw [show (100:Int)+((j:Int)+1)=100+(j:Int)+1 by omega];omega,HOK2.out,by rw [HT2.out];exact HLF.out,DY,IY⟩
       ·have h40':¬(E.K.length:Int)<40:=by omega
        clear hkj hway hok hlf hgl ci
        go_wp2
        go_meet
        exact ⟨E,D.out⟩
    case rest =>
     clear DQ IL HB HVS t0 t1 t2 t3 t4 t5 t6
     obtain ⟨E,d⟩:=hcut
     have DW:Hid (E17 B a0 len cap b w wc q E):=d
     clear d
     obtain ⟨t0,t1,t2,t3,t4,t5,t6⟩:=DW.out.var.c7
     obtain ⟨z0,z1,z2,z3,z4,z5,z6⟩:=DW.out.res.c7;have zf:=DW.out.res.free
     go_wp2
     obtain ⟨u,hu',ou,U⟩:=st7 (b:=w.heap.size) DW.out.res (.int .i64 E.now) (.slice E.aT E.T.length E.cT) (.slice E.aO E.O.length E.cO) (.slice E.aP E.P.length E.cP) (.slice E.aL E.L.length E.cL) (.slice E.aK E.K.length E.cK) (.int .i64 E.nx)
     rw [hu']
     clear hu'
     obtain ⟨fo,fb⟩:=DW.out.fin ou
     refine bodyPost_ret (results_c5E rfl _ _ _ _ rfl U.cell Tryz.underlying31 rfl (by kernel_rfl)) rfl ?_
     exact ⟨E,_,_,_,_,rfl,fo,DW.out.sm,DW.out.hk,fb⟩
theorem drawClose_any {B:Nat} {a0:Option Addr} {len:Nat} (cap:Nat) {w:World} (hs:len≤4096) (row:Row B a0 len w) (hB:B≤w.heap.size) :
 Calls Tryz.prog 13 #[.slice a0 len cap] w (DE1 w):=by
 obtain ⟨v,hv,lv,nb⟩:=new1 w 31 [.int .i64 0,.slice none 0 0,.slice none 0 0,.slice none 0 0,.slice none 0 0,.slice none 0 0,.int .i64 0]
 have zv:=lv.lt
 have bx:Below B w v:=nb.mono hB
 go_enter Tryz.func13,Tryz.ntmps13
 go_upto_region 1 with (fail)
 rw [←hv]
 clear hv
 go_upto_region 3 with (first|(go_at_call 33;refine (new_any cap hs (row.mono bx) (by omega)).mono ?_;rintro e w1 ⟨b,rfl,hb,k1,hb1⟩;have l1:=lv.next hb1;have bw1:=below_two nb hb1;have hbz:=k1.hi)|(go_at_call 34;refine (l14DrawAny_acc k1).mono ?_;rintro e w2 ⟨E,rfl,eo,sm,hkn,k2,o2⟩))
 obtain ⟨q,hq⟩:∃q,w2.heap.size=q:=⟨_,rfl⟩
 obtain ⟨x,hx⟩:∃x,w2.alloc (.cells #[.int .i64 E.now,.slice E.aT E.T.length E.cT,.slice E.aO E.O.length E.cO,.slice E.aP E.P.length E.cP,.slice E.aL E.L.length E.cL,.slice E.aK E.K.length E.cK,.int .i64 E.nx] 31)=x:=⟨_,rfl⟩
 have D:Hid (E17 B a0 len cap b w x q E):=by
  show E17 B a0 len cap b w x q E
  rw [←hx]
  exact e17_new hq bw1 l1 (by omega) hbz k2 o2 eo sm hkn
 rw [hx,hq]
 clear hx hq eo sm hkn k2 o2 l1 k1
 have HS:Hid (∀w',E17 B a0 len cap b w w' q E→w'.cell? ⟨q,0,none⟩=some (.int .i64 E.now)∧w'.cell? ⟨q,1,none⟩=some (.slice E.aT E.T.length E.cT)∧w'.cell? ⟨q,2,none⟩=some (.slice E.aO E.O.length E.cO)∧w'.cell? ⟨q,3,none⟩=some (.slice E.aP E.P.length E.cP)∧w'.cell? ⟨q,4,none⟩=some (.slice E.aL E.L.length E.cL)∧w'.cell? ⟨q,5,none⟩=some (.slice E.aK E.K.length E.cK)∧w'.cell? ⟨q,6,none⟩=some (.int .i64 E.nx)):=fun w' d=>d.var.c7
 have DR:Hid (E17 B a0 len cap b w x.drew q E):=D.out.next (Below.refl _ _).drew
 refine heldQ1 HS DR.out fun hS=>?_
 refine anyR 0 rfl ?_
 refine anyR 1 rfl ?_
 refine anyR 2 rfl ?_
 refine anyC 3 rfl fun Kr hKr=>?_
 go_simp
 (obtain ⟨lo',eq',hlo'⟩:=DR.out.own;have eo':=eq'.own;refine (l14DrawId_acc DR.out.cur E eo' hlo' DR.out.hk DR.out.sm).mono ?_;rintro e u1 ⟨m1,rfl,kk,oo⟩;have DR:Hid (E17 B a0 len cap b w u1 q E):=DR.out.draw oo kk;have hS:=HS.out _ DR.out;obtain ⟨z0,z1,z2,z3,z4,z5,z6⟩:=DR.out.res.c7;have zf:=DR.out.res.free;clear eq' eo' hlo')
 refine hKr.out _ _ ‹_› fun _=>?_
 try simp only [nrm]
 refine anyC 4 rfl fun Kr hKr=>?_
 go_simp
 obtain ⟨u,hu',ou,U⟩:=st7 (b:=w.heap.size) DR.out.res (.int .i64 E.now) (.slice E.aT E.T.length E.cT) (.slice E.aO E.O.length E.cO) (.slice E.aP E.P.length E.cP) (.slice E.aL E.L.length E.cL) (.slice E.aK E.K.length E.cK) (.int .i64 E.nx)
 rw [hu']
 clear hu'
 have hrq:=DR.out.bq
 have hrb:=DR.out.rb
 have LU:=DR.out.var.only ou (by omega)
 refine hKr.out _ _ LU.c7 (fun hS=>?_)
 try simp only [nrm]
 refine anyR 5 rfl ?_
 refine wpAnyH_done (by kernel_rfl) ?_ _
 go_wp2
 have zu:=ou.size
 obtain ⟨fo,fb⟩:=DR.out.fin ou
 refine bodyPost_ret (results_two rfl _ _ _ _ rfl U.cell Tryz.underlying31 rfl (by kernel_rfl)) rfl ?_
 exact ⟨E,_,rfl,fo,D.out.sm,D.out.hk,fb⟩
theorem id_at {now nx:Int} {T O P:List Q4} {L:List F8} {K:List Kn} (h:EgOk now nx T O P L K) {i j:Nat} (hi:i<K.length) (hj:j<K.length) (hne:i≠j):K[i].id≠K[j].id:=by
 have r:=eg_rise h
 rcases Nat.lt_or_gt_of_ne hne with q|q
 ·have:=r i j hi hj q
  omega
 ·have:=r j i hj hi q
  omega
def OpnF (id:Int) (L:List F8) (K:List Kn) (YL:List F8) (YK:List Kn):Prop:=YK.length=K.length+1∧∃(i p:Nat) (hi:i<YK.length) (hp:p<YL.length),fK YK id=(i:Int)∧YK[i].pl=(p:Int)∧YL.set p (clsP YL p id YK[i].fl)=L∧YK.eraseIdx i=K
theorem opn_fact {now nx:Int} {T O P:List Q4} {L:List F8} {K:List Kn} (h:EgOk now nx T O P L K) {id lf kd:Int} {p i:Nat} (hf:fK K id = -1) (hp:p<L.length) (hpos:PosK K id i) (hY:EgOk now nx T O P (L.set p (opnP L p id)) (insAt K i (opnK id lf (p:Int) kd))):OpnF id L K (L.set p (opnP L p id)) (insAt K i (opnK id lf (p:Int) kd)):=by
 have hl:=insAt_length K i (opnK id lf (p:Int) kd)
 have hil:=hpos.le
 have hi:i<(insAt K i (opnK id lf (p:Int) kd)).length:=by omega
 have hat:(insAt K i (opnK id lf (p:Int) kd))[i]=opnK id lf (p:Int) kd:=by
  rcases insAt_get hil hi with ⟨q,_⟩|⟨_,e⟩|⟨q,_⟩
  ·omega
  ·exact e
  ·omega
 have hid:(insAt K i (opnK id lf (p:Int) kd))[i].id=id:=by rw [hat];rfl
 have hp':p<(L.set p (opnP L p id)).length:=by rw [List.length_set];exact hp
 refine ⟨hl,i,p,hi,hp',?_,by rw [hat];rfl,?_,?_⟩
 ·have hne:fK (insAt K i (opnK id lf (p:Int) kd)) id≠-1:=fun e=>fK_notN e i hi hid
  obtain ⟨j,hj,e,e2⟩:=fK_some hne
  by_cases hji:j=i
  ·rw [e,hji]
  ·exact absurd (e2.trans hid.symm) (id_at hY hj hi hji)
 ·have hq:=h.pl p hp
  have hm:=(pl_yes hq.1).2.2.2
  have hn:=(pl_num hq.1).2.1
  rw [clsP_at hp',List.getElem_set_self,hat,opnP_at hp,List.set_set]
  have e:((L[p].1,max 0 (L[p].2.1-(opnK id lf (p:Int) kd).fl),delI (insI L[p].2.2 id) id):F8)=L[p]:=by
   rw [del_ins hm (eg_hasN h hp hf),show (opnK id lf (p:Int) kd).fl=0 from rfl,show max 0 (L[p].2.1-0)=L[p].2.1 by omega]
  show L.set p ((L[p].1,max 0 (L[p].2.1-(opnK id lf (p:Int) kd).fl),delI (insI L[p].2.2 id) id):F8)=L
  rw [e]
  exact List.set_getElem_self hp
 ·unfold insAt
  have ht:(K.take i).length=i:=by rw [List.length_take];omega
  rw [List.eraseIdx_append_of_length_le (by omega),ht,Nat.sub_self,List.eraseIdx_cons_zero,List.take_append_drop]
theorem opens14L (now nx:Int) (T O P:List Q4) (L:List F8) (K:List Kn) (id lf pl kd:Int) (mT:T.length≤1048576) (mL:L.length≤1048576) (sL:∀f ∈ L,f.2.2.length≤1048576) (mK:K.length≤1048576) (sK:∀c ∈ K,c.xs.length≤1048576):∃(YN YX:Int) (YT YO YP:List Q4) (YL:List F8) (YK:List Kn) (f:Int),Small YT YO YP YL YK∧((f=1∧YN=0∧YX=0∧YT=[]∧YO=[]∧YP=[]∧YL=[]∧YK=[])∨(f≠0∧f≠1∧YN=now∧YX=nx∧YT=T∧YO=O∧YP=P∧YL=L∧YK=K)∨(f=0∧EgOk YN YX YT YO YP YL YK∧EgOk now nx T O P L K∧(YN=now∧YX=nx∧YT=T∧YO=O∧YP=P∧OpnF id L K YL YK)))∧(∀(w:World) (aT aO aP aL aK:Option Addr) (cT cO cP cL cK:Nat),Quad w.heap.size w aT T→Quad w.heap.size w aO O→Quad w.heap.size w aP P→Fls w.heap.size w aL L→Kls w.heap.size w aK K→Calls Tryz.prog 11 #[engV now aT T.length cT aO O.length cO aP P.length cP aL L.length cL aK K.length cK nx,.int .i64 id,.int .i64 lf,.int .i64 pl,.int .i64 kd] w (EgPost w YN YX YT YO YP YL YK (.int .i64 f)))∧(∀(w:World) (aT aO aP aL aK:Option Addr) (cT cO cP cL cK:Nat),Quad w.heap.size w aT T→Quad w.heap.size w aO O→Quad w.heap.size w aP P→Fls w.heap.size w aL L→Kls w.heap.size w aK K→Calls Tryz.prog 10 #[engV now aT T.length cT aO O.length cO aP P.length cP aL L.length cL aK K.length cK nx,.int .i64 id,.int .i64 lf,.int .i64 pl,.int .i64 kd] w (EgPost w YN YX YT YO YP YL YK (.int .i64 f))):=by
 cases h1:engB now nx T O P L K
 ·exact ⟨0,0,[],[],[],[],[],1,small_nil,.inl ⟨rfl,rfl,rfl,rfl,rfl,rfl,rfl,rfl⟩,fun w aT aO aP aL aK cT cO cP cL cK hT hO hP hL hK=>specOpn_bad now nx cT cO cP cL cK id lf pl kd hT hO hP hL hK mT mL sL mK sK h1,fun w aT aO aP aL aK cT cO cP cL cK hT hO hP hL hK=>implOpn_bad now nx cT cO cP cL cK id lf pl kd hT hO hP hL hK mL sL mK sK h1⟩
 ·have es:=eg_small (eg_yes h1)
  have eg:=eg_yes h1
  obtain ⟨nT,_,_⟩:=eg_lens eg
  have k40:=eg.k1
  have hri:=eg_rise eg
  cases hn:inQ 0 id 1000000
  ·by_cases hf:fK K id = -1
   ·exact ⟨now,nx,T,O,P,L,K,2,es,.inr (.inl ⟨by decide,by decide,rfl,rfl,rfl,rfl,rfl,rfl,rfl⟩),fun w aT aO aP aL aK cT cO cP cL cK hT hO hP hL hK=>specOpn_id2 now nx cT cO cP cL cK id lf pl kd hT hO hP hL hK mT mL sL mK sK h1 hn,fun w aT aO aP aL aK cT cO cP cL cK hT hO hP hL hK=>implOpn_no now nx cT cO cP cL cK id lf pl kd hT hO hP hL hK mL sL mK sK h1 2 (by decide) (fun u bT bO bP bL bK dT dO dP dL dK qT qL qK=>why_id2 now nx dT dO dP dL dK id lf pl kd qT qL qK nT.2 mL k40 hri hf hn)⟩
   ·obtain ⟨i,hi,hfi,hd⟩:=fK_some hf
    exact ⟨now,nx,T,O,P,L,K,2,es,.inr (.inl ⟨by decide,by decide,rfl,rfl,rfl,rfl,rfl,rfl,rfl⟩),fun w aT aO aP aL aK cT cO cP cL cK hT hO hP hL hK=>specOpn_id2 now nx cT cO cP cL cK id lf pl kd hT hO hP hL hK mT mL sL mK sK h1 hn,fun w aT aO aP aL aK cT cO cP cL cK hT hO hP hL hK=>implOpn_no now nx cT cO cP cL cK id lf pl kd hT hO hP hL hK mL sL mK sK h1 2 (by decide) (fun u bT bO bP bL bK dT dO dP dL dK qT qL qK=>why_id1 now nx dT dO dP dL dK id lf pl kd qT qL qK nT.2 mL k40 hri i hi hd)⟩
  ·by_cases hf:fK K id = -1
   rotate_left 1
   ·obtain ⟨i,hi,hfi,hd⟩:=fK_some hf
    exact ⟨now,nx,T,O,P,L,K,2,es,.inr (.inl ⟨by decide,by decide,rfl,rfl,rfl,rfl,rfl,rfl,rfl⟩),fun w aT aO aP aL aK cT cO cP cL cK hT hO hP hL hK=>specOpn_id1 now nx cT cO cP cL cK id lf pl kd hT hO hP hL hK mT mL sL mK sK h1 hn i hi hfi,fun w aT aO aP aL aK cT cO cP cL cK hT hO hP hL hK=>implOpn_no now nx cT cO cP cL cK id lf pl kd hT hO hP hL hK mL sL mK sK h1 2 (by decide) (fun u bT bO bP bL bK dT dO dP dL dK qT qL qK=>why_id1 now nx dT dO dP dL dK id lf pl kd qT qL qK nT.2 mL k40 hri i hi hd)⟩
   ·cases hl1:inQ 0 lf ((T.length:Int)-1)
    ·have hlf:hasL T lf=false:=by unfold hasL;rw [hl1];rfl
     exact ⟨now,nx,T,O,P,L,K,3,es,.inr (.inl ⟨by decide,by decide,rfl,rfl,rfl,rfl,rfl,rfl,rfl⟩),fun w aT aO aP aL aK cT cO cP cL cK hT hO hP hL hK=>specOpn_leaf1 now nx cT cO cP cL cK id lf pl kd hT hO hP hL hK mT mL sL mK sK h1 hf hn hl1,fun w aT aO aP aL aK cT cO cP cL cK hT hO hP hL hK=>implOpn_no now nx cT cO cP cL cK id lf pl kd hT hO hP hL hK mL sL mK sK h1 3 (by decide) (fun u bT bO bP bL bK dT dO dP dL dK qT qL qK=>why_leaf now nx dT dO dP dL dK id lf pl kd qT qL qK nT.2 mL k40 hri hf hn hlf)⟩
    cases hl2:leafB T lf
    ·have hlf:hasL T lf=false:=by unfold hasL;rw [hl1,hl2];rfl
     exact ⟨now,nx,T,O,P,L,K,3,es,.inr (.inl ⟨by decide,by decide,rfl,rfl,rfl,rfl,rfl,rfl,rfl⟩),fun w aT aO aP aL aK cT cO cP cL cK hT hO hP hL hK=>specOpn_leaf2 now nx cT cO cP cL cK id lf pl kd hT hO hP hL hK mT mL sL mK sK h1 hf hn hl1 hl2,fun w aT aO aP aL aK cT cO cP cL cK hT hO hP hL hK=>implOpn_no now nx cT cO cP cL cK id lf pl kd hT hO hP hL hK mL sL mK sK h1 3 (by decide) (fun u bT bO bP bL bK dT dO dP dL dK qT qL qK=>why_leaf now nx dT dO dP dL dK id lf pl kd qT qL qK nT.2 mL k40 hri hf hn hlf)⟩
    have hlf:hasL T lf=true:=by unfold hasL;rw [hl1,hl2];rfl
    cases hpl:inQ 0 pl ((L.length:Int)-1)
    ·exact ⟨now,nx,T,O,P,L,K,4,es,.inr (.inl ⟨by decide,by decide,rfl,rfl,rfl,rfl,rfl,rfl,rfl⟩),fun w aT aO aP aL aK cT cO cP cL cK hT hO hP hL hK=>specOpn_place now nx cT cO cP cL cK id lf pl kd hT hO hP hL hK mT mL sL mK sK h1 hf hn hl1 hl2 hpl,fun w aT aO aP aL aK cT cO cP cL cK hT hO hP hL hK=>implOpn_no now nx cT cO cP cL cK id lf pl kd hT hO hP hL hK mL sL mK sK h1 4 (by decide) (fun u bT bO bP bL bK dT dO dP dL dK qT qL qK=>why_place now nx dT dO dP dL dK id lf pl kd qT qL qK nT.2 mL k40 hri hf hn hlf hpl)⟩
    obtain ⟨p,hpe,hp⟩:∃p:Nat,pl=(p:Int)∧p<L.length:=by
     have q:=hpl
     unfold inQ at q
     simp only [Bool.and_eq_true,decide_eq_true_eq] at q
     exact ⟨pl.toNat,by omega,by omega⟩
    have hm:=eg_mem40 eg hp
    cases hk:conK kd
    ·exact ⟨now,nx,T,O,P,L,K,5,es,.inr (.inl ⟨by decide,by decide,rfl,rfl,rfl,rfl,rfl,rfl,rfl⟩),fun w aT aO aP aL aK cT cO cP cL cK hT hO hP hL hK=>specOpn_kind now nx cT cO cP cL cK id lf pl kd hT hO hP hL hK mT mL sL mK sK h1 hf hn hl1 hl2 hpl p hpe hp hk,fun w aT aO aP aL aK cT cO cP cL cK hT hO hP hL hK=>implOpn_no now nx cT cO cP cL cK id lf pl kd hT hO hP hL hK mL sL mK sK h1 5 (by decide) (fun u bT bO bP bL bK dT dO dP dL dK qT qL qK=>why_kind now nx dT dO dP dL dK id lf pl kd qT qL qK nT.2 mL k40 hri hf hn hlf hpl p hpe hp hm hk)⟩
    by_cases h40:K.length=40
    ·exact ⟨now,nx,T,O,P,L,K,6,es,.inr (.inl ⟨by decide,by decide,rfl,rfl,rfl,rfl,rfl,rfl,rfl⟩),fun w aT aO aP aL aK cT cO cP cL cK hT hO hP hL hK=>specOpn_full now nx cT cO cP cL cK id lf pl kd hT hO hP hL hK mT mL sL mK sK h1 hf hn hl1 hl2 hpl p hpe hp hk h40,fun w aT aO aP aL aK cT cO cP cL cK hT hO hP hL hK=>implOpn_no now nx cT cO cP cL cK id lf pl kd hT hO hP hL hK mL sL mK sK h1 6 (by decide) (fun u bT bO bP bL bK dT dO dP dL dK qT qL qK=>why_full now nx dT dO dP dL dK id lf pl kd qT qL qK nT.2 mL k40 hri hf hn hlf hpl p hpe hp hm hk h40)⟩
    ·have h40':K.length<40:=by omega
     obtain ⟨i,hpos⟩:=pos_ex K id eg.rise (fK_notN hf)
     exact ⟨now,nx,T,O,P,L.set p (opnP L p id),insAt K i (opnK id lf pl kd),0,(opn_small es hp hm k40),.inr (.inr ⟨rfl,(by rw [hpe];exact opn_right (eg_yes h1) hf hn hlf hp hk h40' hpos),eg_yes h1,rfl,rfl,rfl,rfl,rfl,(by rw [hpe];exact opn_fact (eg_yes h1) hf hp hpos (opn_right (eg_yes h1) hf hn hlf hp hk h40' hpos))⟩),fun w aT aO aP aL aK cT cO cP cL cK hT hO hP hL hK=>specOpn_go now nx cT cO cP cL cK id lf pl kd hT hO hP hL hK mT mL sL mK sK h1 hf hn hl1 hl2 hpl p hpe hp hk h40' i hpos,fun w aT aO aP aL aK cT cO cP cL cK hT hO hP hL hK=>implOpn_go now nx cT cO cP cL cK id lf pl kd hT hO hP hL hK mL sL mK sK h1 hf hn p hpe hp hk h40' i hpos (fun u bT bO bP bL bK dT dO dP dL dK qT qL qK=>why_go now nx dT dO dP dL dK id lf pl kd qT qL qK nT.2 mL k40 hri hf hn hlf hpl p hpe hp hm hk h40')⟩
end Go.Proofs.YthiojkjcmhojoaaGreat
