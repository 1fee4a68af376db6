import Derived.Test.YthiojkjcmhojoaaGreatGtAI
import Derived.Test.YthiojkjcmhojoaaGreatGtAJ
import Derived.Laws.AppendOwnNone
import Derived.Lib.SliceRun
namespace Go.Proofs.YthiojkjcmhojoaaGreat
open Go.ChangeShapes Go.WideShapes Go.ChangeAt Go.RowKit
set_option maxRecDepth 100000
set_option linter.all false
abbrev G8:=Int × Int × Value
def zdw(G:List G8):List Value:=G.flatMap fun x=>[.int .i64 x.1,.int .i64 x.2.1,x.2.2]
theorem zj3(xs ys:List G8):zdw (xs ++ ys)=zdw xs ++ zdw ys:=List.flatMap_append
theorem zdj(xs:List G8):(zdw xs).length=xs.length*3:=by
 induction xs with
 | nil=>rfl| cons x xs ih =>show (zdw xs).length+1+1+1=_;rw[ih,List.length_cons];omega
theorem zik(xs:List G8):∀i (h:i<xs.length),(zdw xs)[i*3]?=some (.int .i64 xs[i].1)/\(zdw xs)[i*3+1]?=some (.int .i64 xs[i].2.1)/\(zdw xs)[i*3+2]?=some xs[i].2.2:=by
 induction xs with
 | nil=>intro i h;cases h
 | cons x xs ih =>
  intro i h;cases i with
  | zero=>exact⟨rfl,rfl,rfl⟩| succ j =>have hj:j<xs.length:=(by simpa using h);obtain⟨h0,h1,h2⟩:=ih j hj;have e:∀d,(zdw (x :: xs))[(j+1)*3+d]?=(zdw xs)[j*3+d]?:=(by intro d;show (Value.int .i64 x.1 :: Value.int .i64 x.2.1 :: x.2.2 :: zdw xs)[(j+1)*3+d]?=_;rw[show (j+1)*3+d=j*3+d+1+1+1 by omega];simp);have e0:=e 0;rw[Nat.add_zero,Nat.add_zero]at e0;rw[e0,e 1,e 2];exact⟨h0,h1,h2⟩
def SzV(B:Nat)(w:World)(v:Value)(xs:List Int):Prop:=∃sa sc,v=.slice sa xs.length sc/\ISmp B w sa xs
structure Vals (B:Nat) (w:World) (G:List G8) (fs:List F8):Prop where
 len:G.length=fs.length
 at':∀i (h:i<fs.length) (h':i<G.length),G[i].1=fs[i].1/\G[i].2.1=fs[i].2.1/\SzV B w G[i].2.2 fs[i].2.2
theorem Vals.one{B:Nat}{w:World}{G:List G8}{fs:List F8}(h:Vals B w G fs):∀u ∈ zdw G,u.oneCell'=true:=by
 intro u hu;obtain⟨x,hx,hu⟩:=List.mem_flatMap.1 hu;obtain⟨i,hi,rfl⟩:=List.mem_iff_getElem.1 hx;obtain⟨_,_,sa,sc,e,_⟩:=h.at' i (by rw[<-h.len];exact hi) hi;simp only[List.mem_cons,List.not_mem_nil,or_false]at hu;rcases hu with rfl|rfl|rfl
 ·rfl
 ·rfl
 ·rw[e];rfl
theorem SzV.mono{B:Nat}{w x:World}{v:Value}{xs:List Int}(h:SzV B w v xs)(hb:Below B w x):SzV B x v xs:=by obtain⟨sa,sc,e,s⟩:=h;exact⟨sa,sc,e,s.mono hb⟩
theorem Vals.mono{B:Nat}{w x:World}{G:List G8}{fs:List F8}(h:Vals B w G fs)(hb:Below B w x):Vals B x G fs:=⟨h.len,fun i h1 h2=>by obtain⟨e1,e2,s⟩:=h.at' i h1 h2;exact⟨e1,e2,s.mono hb⟩⟩
theorem Fls.vals{B:Nat}{w:World}{a:Option Addr}{fs:List F8}(h:Fls B w a fs)(hn:0<fs.length):
 ∃b off G,a=some ⟨b,off,none⟩/\b<B/\Vals B w G fs/\∀j u,(zdw G)[j]?=some u->w.cell? ((⟨b,off,none⟩:Addr).add j)=some u:=by
 obtain⟨b,off,sa,sc,rfl,hb,_⟩:=h 0 hn;have one:∀i,i<fs.length->∃x:G8,∀h':i<fs.length,(x.1=fs[i].1/\x.2.1=fs[i].2.1/\SzV B w x.2.2 fs[i].2.2)/\w.cell? ⟨b,off+i*3,none⟩=some (.int .i64 x.1)/\w.cell? ⟨b,off+i*3+1,none⟩=some (.int .i64 x.2.1)/\w.cell? ⟨b,off+i*3+2,none⟩=some x.2.2:=by intro i hi;obtain⟨b',off',sa,sc,e,_,c0,c1,c2,s⟩:=h i hi;injection e with e;injection e with e1 e2;subst e1 e2;exact⟨(fs[i].1,fs[i].2.1,.slice sa fs[i].2.2.length sc),fun _=>⟨⟨rfl,rfl,sa,sc,rfl,s⟩,c0,c1,c2⟩⟩
 obtain⟨G,hl,hG⟩:=zl5 one;refine⟨b,off,G,rfl,hb,⟨hl,fun i h1 h2=>(hG i h2 h1).1⟩,fun j u hu=>?_⟩;have hj:j<(zdw G).length:=(List.getElem?_eq_some_iff.1 hu).1;rw[zdj]at hj;have e:(⟨b,off,none⟩:Addr).add j=⟨b,off+j,none⟩:=by unfold Addr.add;split<;>simp_all
 rw[e];have hi:j/3<G.length:=by omega
 obtain⟨h0,h1,h2⟩:=zik G (j/3) hi;obtain⟨_,c0,c1,c2⟩:=hG (j/3) hi (by omega);have h3:j%3=0\/j%3=1\/j%3=2:=by omega
 rcases h3 with h|h|h
 ·rw[show j/3*3=j by omega,hu]at h0;rw[h0,show off+j=off+j/3*3 by omega];exact c0
 ·rw[show j/3*3+1=j by omega,hu]at h1;rw[h1,show off+j=off+j/3*3+1 by omega];exact c1
 ·rw[show j/3*3+2=j by omega,hu]at h2;rw[h2,show off+j=off+j/3*3+2 by omega];exact c2
theorem zme{B:Nat}{w:World}{a:Addr}{xs:List Int}(h:ISmp B w (some a) xs):∀j u,(zbc xs)[j]?=some u->w.cell? (a.add j)=some u:=by
 intro j u hu;unfold zbc at hu;rw[List.getElem?_map]at hu;have hj:j<xs.length:=by
  rcases Nat.lt_or_ge j xs.length with k|k
  ·exact k
  ·rw[List.getElem?_eq_none k]at hu;cases hu
 rw[List.getElem?_eq_getElem hj]at hu;obtain⟨b,off,e,_,c⟩:=h j hj;injection e with e;subst e;have e2:(⟨b,off,none⟩:Addr).add j=⟨b,off+j,none⟩:=by unfold Addr.add;split<;>simp_all
 rw[e2,c];simpa using hu
theorem zd0{P:Program}{w:World}{ops:Array Oper}{rest:List Oper}{o:Oper}{a:Act}{Q:Exit->Act->World->Prop}(hw:Region.wanted o (yielded ops a.tmps)=true)(s x:Operand)(t:TypeId)(ho:o.op=.call { callee:=.builtin .append,args:=#[s,x],argTypes:=#[t,t] })(base:Nat)(e:TypeId)(i:TypeInfo)(z:Value)(ht:P.underlying t=some (.slice e))(hi:P.info? e=some i)(hz:i.zero=some z)(hsize:i.size=1)(hby:i.bytes=8)(hzs:z.cells.size=1)(v:Value)(n:Nat)(xs:List Value)(hs:a.eval s=v)(hown:w.ownsRow base e 1 v n xs)(u:Option Addr)(c B:Nat)(ys:List Int)(hx:a.eval x=.slice u ys.length c)(hu:ISmp B w u ys)(hn:n+ys.length<=1048576)(hbase:base<=w.heap.size)(h:∀v' w',w'.ownsRow base e 1 v' (n+ys.length) (xs ++ zbc ys)->w.grownBy w' v.ownBlock->wpList P ops Q rest (a.put o.dst v') w'):wpList P ops Q (o :: rest) a w:=by
 refine wpList_step fun K hK=>?_;rw[if_pos hw];cases u with
 | some ad =>exact wp_append_own w s x t ho base e i z 1 8 ht hi hz hsize hby hzs (by decide) v n xs hs hown ad ys.length c (zbc ys) hx (by rw[zfa,Nat.mul_one]) (zme hu) (zdl ys) (by unfold maxLen;omega) (by omega) hbase (fun v' w' k1 k2 _=>hK _ _ (h v' w' k1 k2))
 | none =>
  have hy:ys=[]:=by
   cases ys with
   | nil=>rfl| cons y r=>obtain⟨b,off,e,_⟩:=hu 0 (by simp);cases e
  subst hy;have hrun:(Builtin.append_ #[t,t] o.type #[v,.slice none 0 c]).run P w=.ok v w:=run_append_owned_none (P:=P) (w:=w) base t o.type e i 1 ht hi v n xs hown;have k:=h v w (by simpa[zbc] using hown) ⟨rfl,rfl,rfl,nrf _,fun _ _ _=>rfl⟩;rw[List.length_nil]at hx;unfold Oper.wp;simp[execOp,ho,resolve,invoke,builtin,hs,hx,hrun,Result.andThen];exact hK _ _ k
theorem zil{P:Program}{w:World}(t ty e:TypeId)(i:TypeInfo)(ht:P.underlying t=some (.slice e))(hi:P.info? e=some i)(a u:Option Addr)(n cap c:Nat)(hn:n<=cap):
 (Builtin.append_ #[t,t] ty #[.slice a n cap,.slice u 0 c]).run P w=.ok (.slice a n cap) w:=by
 cases u<;>cases a<;>simp[Builtin.append_,run_underlying ht,sizeOf,typeInfo,hi,Builtin.lenOf,Builtin.firstCells,hn,storeCells,loadCells,loadCellsFrom]
theorem zds{P:Program}{w:World}{ops:Array Oper}{rest:List Oper}{o:Oper}{a:Act}{Q:Exit->Act->World->Prop}(hw:Region.wanted o (yielded ops a.tmps)=true)(s x:Operand)(t:TypeId)(ho:o.op=.call { callee:=.builtin .append,args:=#[s,x],argTypes:=#[t,t] })(base:Nat)(e:TypeId)(i:TypeInfo)(z:Value)(ht:P.underlying t=some (.slice e))(hi:P.info? e=some i)(hz:i.zero=some z)(hsize:i.size=1)(hby:i.bytes=8)(hzs:z.cells.size=1)(b:Option Addr)(hs:a.eval s=.slice b 0 0)(hown:w.ownsRow base e 1 (.slice b 0 0) 0 [])(u:Option Addr)(c B:Nat)(ys:List Int)(hx:a.eval x=.slice u ys.length c)(hu:ISmp B w u ys)(hn:ys.length<=1048576)(hbase:base<=w.heap.size)(h:∀v' w',w'.ownsRow base e 1 v' ys.length (zbc ys)->w.grownBy w' (Value.slice b 0 0).ownBlock->(ys=[]->v'=.slice b 0 0)->wpList P ops Q rest (a.put o.dst v') w'):wpList P ops Q (o :: rest) a w:=by
 by_cases hy:ys=[]
 ·subst hy;have hrun:(Builtin.append_ #[t,t] o.type #[.slice b 0 0,.slice u 0 c]).run P w=.ok (.slice b 0 0) w:=zil t o.type e i ht hi b u 0 0 c (nrf _);have k:=h (.slice b 0 0) w (by simpa[zbc] using hown) ⟨rfl,rfl,rfl,nrf _,fun _ _ _=>rfl⟩ (fun _=>rfl);rw[List.length_nil]at hx;refine wpList_step fun K hK=>?_;rw[if_pos hw];unfold Oper.wp;simp[execOp,ho,resolve,invoke,builtin,hs,hx,hrun,Result.andThen];exact hK _ _ k
 ·refine zd0 hw s x t ho base e i z ht hi hz hsize hby hzs _ 0 [] hs hown u c B ys hx hu (by omega) hbase (fun v' w' k1 k2=>h v' w' ?_ k2 (fun e=>absurd e hy));rw[Nat.zero_add,List.nil_append]at k1;exact k1
theorem zsh{w:World}{a:Option Addr}(cap:Nat){xs:List Int}(h:Iw w a xs)(hl:xs.length<=1048576):
 Calls Tryz.prog 102 #[.slice a xs.length cap] w (fun e w'=>∃v,e=.returned v/\w'.ownsRow w.heap.size 2 1 v xs.length (zbc xs)/\Bw w w'/\(xs=[]->∃a,v=.slice a 0 0)):=by
 obtain⟨i0,hi,hz0,hz1,hz2⟩:=info_parts zeo;have q:∀(w:World) (a:Option Addr) (n c n' c':Nat),(binOp .eql 45 (.slice a n c) (.slice none n' c')).run Tryz.prog w=.ok (.bool a.isNone) w:=fun w a n c n' c'=>Lib.run_eql_slice_nil w _ _ a n c n' c' Tryz.underlying45;cases a with
 | none =>
  have hx:xs=[]:=by
   cases xs with
   | nil=>rfl| cons x r=>obtain⟨b,off,e,_⟩:=h 0 (by simp);cases e
  subst hx;go_enter Tryz.func102,Tryz.ntmps102;go_wp2;go_ret;exact⟨_,rfl,⟨rfl,.inl ⟨rfl,rfl⟩⟩,brf _ _,fun _=>⟨_,rfl⟩⟩
 | some ad =>have HSM:Hid (ISmp w.heap.size (w.alloc (.cells #[] 2)) (some ad) xs):=h.mono (by go_grown);go_enter Tryz.func102,Tryz.ntmps102;go_wp2_with (at_builtin;refine zds (by rfl) _ _ 45 rfl w.heap.size 2 i0 _ Tryz.underlying45 hi hz0 hz1 hz2 rfl _ rfl (zd7 w _ _ rfl (nrf _) _) (some ad) cap w.heap.size xs rfl HSM.out hl (by simp) ?_;intro v' w1 hown hgr hzz);go_ret;exact⟨v',rfl,hown,((brf _ w).alloc (nrf _) _).grown hgr (by simp) (fun k hk=>Nat.le_of_eq (osi hk)),fun e=>⟨_,hzz e⟩⟩
structure FR (w:World) (lo hi g n:Nat) (vs:List Value) (fs:List F8):Prop where
 fo:FO w lo hi g n vs fs
 row:∀i (h:i<fs.length) (h':i<vs.length),w.ownsRow lo 2 1 vs[i] fs[i].2.2.length (zbc fs[i].2.2)
 sep:∀i (h':i<vs.length) b,vs[i].ownBlock=some b->b≠g/\b<hi/\∀j (hj:j<vs.length),j≠i->vs[j].ownBlock≠some b
theorem zj4{w:World}{lo n:Nat}{e:TypeId}{v:Value}{xs:List Value}(h:w.ownsRow lo e 1 v n xs){b:Nat}(hb:elB v=some b):v.ownBlock=some b:=by
 rcases h.2 with⟨rfl,_⟩|⟨g,cap,cur,rfl,_⟩
 ·cases hb
 ·cases n with
  | zero=>cases hb| succ n=>exact hb
structure CpP (w:World) (lo:Nat) (sF:Value) (G:List G8) (fs:List F8):Prop where
 row:w.ownsRow lo 50 3 sF fs.length (zdw G)
 len:G.length=fs.length
 num:∀i (h:i<fs.length) (h':i<G.length),G[i].1=fs[i].1/\G[i].2.1=fs[i].2.1
 ints:∀i (h:i<fs.length) (h':i<G.length),w.ownsRow lo 2 1 G[i].2.2 fs[i].2.2.length (zbc fs[i].2.2)
 sep:∀i (h':i<G.length) b,G[i].2.2.ownBlock=some b->b<w.heap.size/\∀j (hj:j<G.length),j≠i->G[j].2.2.ownBlock≠some b
theorem CpP.next{w w':World}{lo:Nat}{sF:Value}{G:List G8}{fs:List F8}(h:CpP w lo sF G fs)(hb:Bw w w'):CpP w' lo sF G fs :=
 ⟨zbd h.row hb,h.len,h.num,fun i h1 h2=>zbd (h.ints i h1 h2) hb,fun i k b e=>⟨nlt (h.sep i k b e).1 hb.size,(h.sep i k b e).2⟩⟩
theorem CpP.set{w:World}{lo:Nat}{sF:Value}{G:List G8}{fs:List F8}(h:CpP w lo sF G fs){b i:Nat}(v:Value)(hb:b<lo):CpP (w.setCell ⟨b,i,none⟩ v) lo sF G fs :=
 ⟨za7 h.row hb,h.len,h.num,fun i h1 h2=>za7 (h.ints i h1 h2) hb,fun i k b e=>⟨by simpa using (h.sep i k b e).1,(h.sep i k b e).2⟩⟩
theorem CpP.push{w w':World}{lo:Nat}{sF sF':Value}{G:List G8}{fs:List F8}{q d:Int}{v:Value}{xs:List Int}(h:CpP w lo sF G fs)(hv:w.ownsRow lo 2 1 v xs.length (zbc xs))(hn:∀b,v.ownBlock=some b->b<w.heap.size/\∀j (hj:j<G.length),G[j].2.2.ownBlock≠some b)(hr:w'.ownsRow lo 50 3 sF' (fs.length+1) (zdw G ++ [.int .i64 q,.int .i64 d,v]))(hg:w.grownBy w' sF.ownBlock):CpP w' lo sF' (G ++ [(q,d,v)]) (fs ++ [(q,d,xs)]):=by
 have hlen:=h.len;have hty:(2:TypeId)≠50:=by decide
 have keep:∀{u:Value} {m:Nat} {ys:List Value},w.ownsRow lo 2 1 u m ys->w'.ownsRow lo 2 1 u m ys:=fun hu=>hu.kept (row:=sF.ownBlock) hg (zb7 hu h.row hty);have atG:∀i (hi:i<(G ++ [(q,d,v)]).length),(∃h':i<G.length,(G ++ [(q,d,v)])[i]=G[i])\/(i=fs.length/\(G ++ [(q,d,v)])[i]=(q,d,v)):=fun i hi=>by
  by_cases e:i<G.length
  ·exact .inl ⟨e,List.getElem_append_left e⟩
  ·have e2:i=G.length:=(by simp at hi;omega);refine .inr ⟨e2.trans hlen,?_⟩;subst e2;simp
 refine⟨?_,by simp[hlen],fun i h1 h2=>?_,fun i h1 h2=>?_,fun i h2 b e=>?_⟩
 ·rw[zj3,List.length_append];exact hr
 ·rcases atG i h2 with⟨k,e⟩|⟨k,e⟩
  ·have k':i<fs.length:=(by omega);rw[e,List.getElem_append_left k'];exact h.num i k' k
  ·rw[e];subst k;simp
 ·rcases atG i h2 with⟨k,e⟩|⟨k,e⟩
  ·have k':i<fs.length:=(by omega);rw[e,List.getElem_append_left k'];exact keep (h.ints i k' k)
  ·rw[e];subst k;simp only[List.getElem_append_right (nrf _),Nat.sub_self,List.getElem_cons_zero];exact keep hv
 ·rcases atG i h2 with⟨k,e1⟩|⟨k,e1⟩
  ·rw[e1]at e;obtain⟨s1,s2⟩:=h.sep i k b e;refine⟨nlt s1 hg.size,fun j hj hne=>?_⟩;rcases atG j hj with⟨k2,e2⟩|⟨k2,e2⟩
   ·rw[e2];exact s2 j k2 hne
   ·rw[e2];intro e';exact (hn b e').2 i k e
  ·rw[e1]at e;obtain⟨s1,s2⟩:=hn b e;refine⟨nlt s1 hg.size,fun j hj hne=>?_⟩;rcases atG j hj with⟨k2,e2⟩|⟨k2,e2⟩
   ·rw[e2];exact s2 j k2
   ·omega
theorem CpP.fr{w:World}{lo g cap:Nat}{G:List G8}{fs:List F8}(h:CpP w lo (.slice (some ⟨g,0,none⟩) fs.length cap) G fs):FR w lo w.heap.size g fs.length (G.map (·.2.2)) fs:=by
 have hg:=h.row.lt g rfl;have hty:(2:TypeId)≠50:=by decide
 have hlen:=h.len;have at1:∀i (hi:i<(G.map (·.2.2)).length),∃h':i<G.length,(G.map (·.2.2))[i]=G[i].2.2:=fun i hi=>⟨by simpa using hi,by simp⟩;refine⟨⟨hg.1,hg.2,nrf _,by simp[hlen],nrf _,fun j hj=>⟨?_,h.row.frozenAt j⟩,fun i h1 h2=>?_,fun i h1 h2=>?_,fun i h2 e=>?_,fun i j h2 h3 hne b e e'=>?_⟩,fun i h1 h2=>?_,fun i h2 b e=>?_⟩
 ·have hl:j<(zdw G).length:=(by rw[zdj,hlen];exact hj);exact⟨_,(h.row.cellAt j hj).trans (List.getElem?_eq_getElem hl)⟩
 ·obtain⟨k,e⟩:=at1 i h2;rw[e];obtain⟨e0,e1,e2⟩:=zik G i k;obtain⟨n0,n1⟩:=h.num i h1 k;rw[n0]at e0;rw[n1]at e1;exact⟨(h.row.cellAt _ (by omega)).trans e0,(h.row.cellAt _ (by omega)).trans e1,(h.row.cellAt _ (by omega)).trans e2⟩
 ·obtain⟨k,e⟩:=at1 i h2;rw[e];exact (zde (h.ints i h1 k)).io
 ·obtain⟨k,e1⟩:=at1 i h2;rw[e1]at e;have o:=h.ints i (by omega) k;exact zbv o h.row hty g (zj4 o e) rfl
 ·obtain⟨k,e1⟩:=at1 i h2;obtain⟨k2,e2⟩:=at1 j h3;rw[e1]at e;rw[e2]at e';exact (h.sep i k b (zj4 (h.ints i (by omega) k) e)).2 j k2 (fun e=>hne e.symm) (zj4 (h.ints j (by omega) k2) e')
 ·obtain⟨k,e⟩:=at1 i h2;rw[e];exact h.ints i h1 k
 ·obtain⟨k,e1⟩:=at1 i h2;rw[e1]at e;obtain⟨s1,s2⟩:=h.sep i k b e;refine⟨fun e'=>zbv (h.ints i (by omega) k) h.row hty b e (by rw[e'];rfl),s1,fun j hj hne=>?_⟩;obtain⟨k2,e2⟩:=at1 j hj;rw[e2];exact s2 j k2 hne
theorem CpP.tv{w:World}{lo n cap:Nat}{a:Option Addr}{G:List G8}{L:List F8}(h:CpP w lo (.slice a n cap) G L)(hl:n=L.length):TV w lo w.heap.size (.slice a n cap) L:=by
 subst hl;rcases h.row.2 with⟨e,e2⟩|⟨g,cap',cur,e,_,_,hc,_⟩
 ·injection e with e1 _ e3;subst e1 e3;have hn:L=[]:=List.eq_nil_of_length_eq_zero e2;subst hn;exact .inr ⟨rfl,none,0,rfl⟩
 ·injection e with e1 _ e3;subst e1 e3;exact .inl ⟨g,cap,G.map (·.2.2),rfl,hc,h.fr.fo⟩
theorem CpP.zero(w:World)(lo:Nat):CpP w lo (.slice none 0 0) [] []:=⟨⟨rfl,.inl ⟨rfl,rfl⟩⟩,rfl,(fun i h=>by cases h),(fun i h=>by cases h),(fun i h=>by cases h)⟩
theorem zh4{P:Program}{w:World}(t ty e:TypeId)(i:TypeInfo)(ht:P.underlying t=some (.slice e))(hi:P.info? e=some i)(hb:i.bytes=8)(a ad:Addr)(m c:Nat)(hm:0<m)(h63:m<=1048576):
 (Builtin.append_ #[t,t] ty #[.slice (some a) 0 0,.slice (some ad) m c]).run P w=(Builtin.append_ #[t,t] ty #[.slice none 0 0,.slice (some ad) m c]).run P w:=by
 have hm0:¬m=0:=by omega
 have h1:¬((m:Int) > IntKind.i64.max):=by show ¬((m:Int) > 9223372036854775807);omega
 have h2:¬(i.bytes=0):=by omega
 have h3:Builtin.nextslicecap m 0=m:=by unfold Builtin.nextslicecap;simp;try omega
 have h4:¬(281474976710656<m*i.bytes):=by rw[hb];omega
 simp[Builtin.append_,run_underlying ht,sizeOf,typeInfo,hi,Builtin.lenOf,Builtin.firstCells,hm0,h1,h2,loadCells,loadCellsFrom,h3,h4]
end Go.Proofs.YthiojkjcmhojoaaGreat
