import Derived.Test.YthiojkjcmhojoaaGreatGtZZ
import Derived.Test.YthiojkjcmhojoaaGreatRows
import Derived.WalkKit
import Derived.ProofKit
import Derived.OpenShut
import Derived.Deep.RegionHeld3
namespace Go.Proofs.YthiojkjcmhojoaaGreat
open Go.ChangeShapes Go.WideShapes Go.ChangeAt Go.RowKit
set_option maxRecDepth 100000
set_option linter.all false
theorem nrm:(∀(a:Act) (d:Tmp) (v:Value),a.put (some d) v={ a with tmps:=a.tmps.setIfInBounds d v })/\(∀(a:Act) (v:Value),a.put none v=a)/\(∀(α:Type) (l:List α) (i:Nat) (v:α),l.toArray.setIfInBounds i v=(l.set i v).toArray)/\(∀(α:Type) (x:α) (l:List α) (v:α),(x :: l).set 0 v=v :: l)/\(∀(α:Type) (x:α) (l:List α) (n:Nat) (v:α),(x :: l).set (n+1) v=x :: l.set n v)/\(∀(α:Type) (l:List α) (i:Nat) (h:i<l.toArray.size),l.toArray[i]=l[i]'(by simpa using h))/\(∀(α:Type) (x:α) (l:List α) (i:Nat) (h:i+1<(x :: l).length),(x :: l)[i+1]=l[i]'(by simpa using h))/\(∀(α:Type) (x:α) (l:List α) (h:0<(x :: l).length),(x :: l)[0]=x) :=
 ⟨fun _ _ _=>rfl,fun _ _=>rfl,fun _ _ _ _=>by simp,fun _ _ _ _=>rfl,fun _ _ _ _ _=>rfl,fun _ _ _ _=>by simp,fun _ _ _ _ _=>rfl,fun _ _ _ _=>rfl⟩
section
variable {P:Program} {ops:Array Oper} {Q:Exit->Act->World->Prop} {md:Region.Mode} {S:World->Prop} {oi:Oper} {v:Value} {fuel:Nat} {listed:Array Bool} {a a':Act} {w:World}
theorem zac(i:Nat)(hi:ops[i]?=some oi)(h:wpAnyH P md ops Q S fuel (listed.setIfInBounds i true) a' w)(hs:Region.noSelect ops=true:=by kernel_rfl)(hf:Region.free md ops listed i=true:=by kernel_rfl)(hr:(Region.ready md ops listed).contains i=true:=by kernel_rfl)(hQ:∀c a w,Q (.panic c) (a.put oi.dst v) w->Q (.panic c) a w:=by exact fun _ _ _ h=>h)(hg:Region.wanted oi (yielded ops a.tmps)=true:=by rfl)(hy:∀w,S w->(execOp a.eval oi).run P w=.ok (.value v) w:=by (intro w' hSw;(try dsimp only at hSw);go_simp;try with_reducible rfl))(ha:a.put oi.dst v=a':=by ((try simp only[nrm]);exact rfl))(hS:S w:=by assumption):wpAnyH P md ops Q S (fuel+1) listed a w:=by
 subst ha;exact wpAnyH_take hi hs hf hr hQ (Or.inl ⟨hg,hy⟩) hS h
theorem zci(i:Nat){o:Oper}(ho:ops[i]?=some o)(h:∀K':Act->World->Prop,Shut (∀a w,S w->(S w->wpAnyH P md ops Q S fuel (listed.setIfInBounds i true) a w)->K' a w)->if Region.wanted o (yielded ops a.tmps)=true then Oper.wp P o a w K' Q else K' (a.put o.dst undef) w)(hr:Region.ready md ops listed=[i]:=by kernel_rfl):wpAnyH P md ops Q S (fuel+1) listed a w:=wpAnyH_ready (rs:=[i]) hr (by simp) (AllReadyH.cons ho h AllReadyH.nil)
theorem anyV(i:Nat)(hi:ops[i]?=some oi)(hy:∀w,S w->(execOp a.eval oi).run P w=.ok (.value v) w)(h:wpAnyH P md ops Q S fuel (listed.setIfInBounds i true) (a.put oi.dst v) w)(hs:Region.noSelect ops=true:=by kernel_rfl)(hf:Region.free md ops listed i=true:=by kernel_rfl)(hr:(Region.ready md ops listed).contains i=true:=by kernel_rfl)(hQ:∀c a w,Q (.panic c) (a.put oi.dst v) w->Q (.panic c) a w:=by exact fun _ _ _ h=>h)(hg:Region.wanted oi (yielded ops a.tmps)=true:=by rfl)(hS:S w:=by assumption):wpAnyH P md ops Q S (fuel+1) listed a w :=
 wpAnyH_take hi hs hf hr hQ (Or.inl ⟨hg,hy⟩) hS h
theorem zap(i:Nat)(hi:ops[i]?=some oi)(h:wpAnyH P md ops Q S fuel (listed.setIfInBounds i true) a' w)(hs:Region.noSelect ops=true:=by kernel_rfl)(hf:Region.free md ops listed i=true:=by kernel_rfl)(hr:(Region.ready md ops listed).contains i=true:=by kernel_rfl)(hQ:∀c a w,Q (.panic c) (a.put oi.dst undef) w->Q (.panic c) a w:=by exact fun _ _ _ h=>h)(hg:Region.wanted oi (yielded ops a.tmps)=false:=by rfl)(ha:a.put oi.dst undef=a':=by ((try simp only[nrm]);exact rfl))(hS:S w:=by assumption):wpAnyH P md ops Q S (fuel+1) listed a w:=by
 subst ha;exact wpAnyH_take hi hs hf hr hQ (Or.inr ⟨hg,rfl⟩) hS h
end
section
variable {P:Program} {ops:Array Oper} {Q:Exit->Act->World->Prop} {md:Region.Mode} {S:World->Prop} {L:Nat}
def zdx(P:Program)(md:Region.Mode)(ops:Array Oper)(Q:Exit->Act->World->Prop)(S:World->Prop)(L:Nat):Nat->Array Bool->Act->World->Prop
 | 0,listed,a,w=>Region.ready md ops listed=[]/\Q .normal a w
 | fuel+1,listed,a,w =>
  (Region.ready md ops listed=[]->Q .normal a w) /\
  ∀i ∈ Region.ready md ops listed,wpOp P ops Q i (fun a' w'=>(i≠L->S w')/\zdx P md ops Q S L fuel (listed.setIfInBounds i true) a' w') a w
theorem zh6:∀(fuel:Nat) (listed:Array Bool) (a:Act) (w:World),zdx P md ops Q S L fuel listed a w->wpAny P md ops Q fuel listed a w
 | 0,_,_,_,h=>h| fuel+1,_,_,_,h=>⟨h.1,fun i hi=>wpOp_mono (fun a' w' h'=>zh6 fuel _ a' w' h'.2) (h.2 i hi)⟩
def zoi(md:Region.Mode)(ops:Array Oper)(L i:Nat):Bool:=match ops[L]? with
 | some o=>o.after.toList.any fun e=>Region.binds md e && e.on == i| none=>true
theorem zno{listed:Array Bool}{i:Nat}(hw:zoi md ops L i=true)(hi:i ∈ Region.ready md ops listed):L ∉ Region.ready md ops listed:=by
 intro hL;obtain⟨hjun,oj,hoj,hall⟩:=mem_ready.1 hL;unfold zoi at hw;rw[hoj]at hw;simp only[List.any_eq_true,bae,beq_iff_eq]at hw;obtain⟨e,he,hb,hon⟩:=hw;have h1:=hall e (by simpa using he) hb;have h0:=(mem_ready.1 hi).1;rw[hon]at h1;rcases Nat.lt_or_ge i listed.size with h'|h'
 ·simp[h']at h0 h1;rw[h0]at h1;cases h1
 ·simp[Array.getElem?_eq_none h']at h1
section
variable{i:Nat}{oi:Oper}{v:Value}
theorem zve(hi:ops[i]?=some oi)(hsel:∀(j:Nat) (o:Oper) cs b,ops[j]?=some o->o.op≠.select cs b)(hQ:∀c a w,Q (.panic c) (a.put oi.dst v) w->Q (.panic c) a w)(hw:zoi md ops L i=true):
 ∀(fuel:Nat) (listed:Array Bool) (a:Act) (w:World),
  (∀j oj,ops[j]?=some oj->j≠i->listed.getD j true=false->(∀e ∈ oj.after,Region.binds md e=true->e.on≠i)->oi.apart ops oj=true) ->
  i ∈ Region.ready md ops listed->YieldsIf P ops S oi v a->S w ->
  zdx P md ops Q S L fuel (listed.setIfInBounds i true) (a.put oi.dst v) w->zdx P md ops Q S L (fuel+1) listed a w:=by
 intro fuel;induction fuel with
 | zero =>
  intro listed a w _ hr hy hS H;refine⟨fun h=>(by rw[h]at hr;cases hr),fun j hj=>?_⟩;by_cases hji:j=i
  ·subst hji;exact hy.wpOp hi hS ⟨fun _=>hS,H⟩
  ·have k:=ready_mono hj hji;rw[H.1]at k;cases k
 | succ fuel ih =>
  intro listed a w hfree hr hy hS H;refine⟨fun h=>(by rw[h]at hr;cases hr),fun j hj=>?_⟩;by_cases hji:j=i
  ·subst hji;exact hy.wpOp hi hS ⟨fun _=>hS,H⟩
  ·have hjL:j≠L:=fun e=>zno hw hr (e ▸ hj);have h1:=H.2 j (ready_mono hj hji);obtain⟨hjun,oj,hoj,hall⟩:=mem_ready.1 hj;have hnot:∀e ∈ oj.after,Region.binds md e=true->e.on≠i:=by
    intro e he hb heq;have k1:=hall e he hb;have k0:=(mem_ready.1 hr).1;rw[heq]at k1;rcases Nat.lt_or_ge i listed.size with h'|h'
    ·simp[h']at k0 k1;rw[k0]at k1;cases k1
    ·simp[Array.getElem?_eq_none h']at k1
   have h2:=wpOp_putIf hoj (hfree j oj hoj hji hjun hnot) (fun cs b=>hsel i oi cs b hi) (fun cs b=>hsel j oj cs b hoj) hQ hy h1;refine wpOp_mono (fun a' w' h3=>⟨fun _=>h3.2.1 hjL,ih (listed.setIfInBounds j true) a' w' ?_ (ready_mono hr (Ne.symm hji)) h3.1 (h3.2.1 hjL) ?_⟩) h2
   ·intro k ok hk hki hun hno;refine hfree k ok hk hki ?_ hno;by_cases hjk:j=k
    ·subst hjk;exact hjun
    ·rw[getD_set_ne true hjk]at hun;exact hun
   ·rw[Array.setIfInBounds_comm _ _ hji];exact h3.2.2
theorem zpr{fuel:Nat}{listed:Array Bool}{a:Act}{w:World}(hi:ops[i]?=some oi)(hs:Region.noSelect ops=true)(hf:Region.free md ops listed i=true)(hr:(Region.ready md ops listed).contains i=true)(hw:zoi md ops L i=true)(hQ:∀c a w,Q (.panic c) (a.put oi.dst v) w->Q (.panic c) a w)(hy:YieldsIf P ops S oi v a)(hS:S w)(h:zdx P md ops Q S L fuel (listed.setIfInBounds i true) (a.put oi.dst v) w):zdx P md ops Q S L (fuel+1) listed a w :=
 zve hi (Region.noSelect_spec hs) hQ hw fuel listed a w (Region.free_spec hi hf) (by simpa using hr) hy hS h
end
theorem zae(i:Nat){oi:Oper}{v:Value}{fuel:Nat}{listed:Array Bool}{a a':Act}{w:World}(hi:ops[i]?=some oi)(h:zdx P md ops Q S L fuel (listed.setIfInBounds i true) a' w)(hs:Region.noSelect ops=true:=by kernel_rfl)(hf:Region.free md ops listed i=true:=by kernel_rfl)(hr:(Region.ready md ops listed).contains i=true:=by kernel_rfl)(hw:zoi md ops L i=true:=by kernel_rfl)(hQ:∀c a w,Q (.panic c) (a.put oi.dst v) w->Q (.panic c) a w:=by exact fun _ _ _ h=>h)(hg:Region.wanted oi (yielded ops a.tmps)=true:=by rfl)(hy:∀w,S w->(execOp a.eval oi).run P w=.ok (.value v) w:=by (intro w' hSw;(try dsimp only at hSw);go_simp;try with_reducible rfl))(ha:a.put oi.dst v=a':=by ((try simp only[nrm]);exact rfl))(hS:S w:=by assumption):zdx P md ops Q S L (fuel+1) listed a w:=by
 subst ha;exact zpr hi hs hf hr hw hQ (Or.inl ⟨hg,hy⟩) hS h
theorem z1f(i:Nat){oi:Oper}{v:Value}{fuel:Nat}{listed:Array Bool}{a:Act}{w:World}(hi:ops[i]?=some oi)(hy:∀w,S w->(execOp a.eval oi).run P w=.ok (.value v) w)(h:zdx P md ops Q S L fuel (listed.setIfInBounds i true) (a.put oi.dst v) w)(hs:Region.noSelect ops=true:=by kernel_rfl)(hf:Region.free md ops listed i=true:=by kernel_rfl)(hr:(Region.ready md ops listed).contains i=true:=by kernel_rfl)(hw:zoi md ops L i=true:=by kernel_rfl)(hQ:∀c a w,Q (.panic c) (a.put oi.dst v) w->Q (.panic c) a w:=by exact fun _ _ _ h=>h)(hg:Region.wanted oi (yielded ops a.tmps)=true:=by rfl)(hS:S w:=by assumption):zdx P md ops Q S L (fuel+1) listed a w :=
 zpr hi hs hf hr hw hQ (Or.inl ⟨hg,hy⟩) hS h
theorem zaj{i:Nat}{o:Oper}{fuel:Nat}{listed:Array Bool}{a:Act}{w:World}(hr:Region.ready md ops listed=[i])(ho:ops[i]?=some o)(h:∀K':Act->World->Prop,Shut (∀a w,S w->(S w->zdx P md ops Q S L fuel (listed.setIfInBounds i true) a w)->K' a w)->if Region.wanted o (yielded ops a.tmps)=true then Oper.wp P o a w K' Q else K' (a.put o.dst undef) w):
 zdx P md ops Q S L (fuel+1) listed a w:=by
 refine⟨fun k=>(by rw[hr]at k;cases k),fun j hj=>?_⟩;rw[hr]at hj;obtain rfl:j=i:=by simpa using hj
 exact wpOp_step ho (fun K' hK=>h K' (fun a w hS hW=>hK a w ⟨fun _=>hS,hW hS⟩))
theorem zzd{i j:Nat}{o p:Oper}{fuel:Nat}{listed:Array Bool}{a:Act}{w:World}(hr:Region.ready md ops listed=[i,j])(ho:ops[i]?=some o)(hp:ops[j]?=some p)(h:∀K':Act->World->Prop,Shut (∀a w,S w->(S w->zdx P md ops Q S L fuel (listed.setIfInBounds i true) a w)->K' a w)->if Region.wanted o (yielded ops a.tmps)=true then Oper.wp P o a w K' Q else K' (a.put o.dst undef) w)(k:∀K':Act->World->Prop,Shut (∀a w,S w->(S w->zdx P md ops Q S L fuel (listed.setIfInBounds j true) a w)->K' a w)->if Region.wanted p (yielded ops a.tmps)=true then Oper.wp P p a w K' Q else K' (a.put p.dst undef) w):
 zdx P md ops Q S L (fuel+1) listed a w:=by
 refine⟨fun e=>(by rw[hr]at e;cases e),fun n hn=>?_⟩;rw[hr]at hn;rcases List.mem_cons.1 hn with rfl|hn
 ·exact wpOp_step ho (fun K' hK=>h K' (fun a w hS hW=>hK a w ⟨fun _=>hS,hW hS⟩))
 ·obtain rfl:n=j:=(by simpa using hn);exact wpOp_step hp (fun K' hK=>k K' (fun a w hS hW=>hK a w ⟨fun _=>hS,hW hS⟩))
theorem zat{o:Oper}{fuel:Nat}{listed:Array Bool}{a:Act}{w:World}(hr:Region.ready md ops listed=[L])(ho:ops[L]?=some o)(hd:Region.ready md ops (listed.setIfInBounds L true)=[])(h:∀K':Act->World->Prop,Shut (∀a w,Q .normal a w->K' a w)->if Region.wanted o (yielded ops a.tmps)=true then Oper.wp P o a w K' Q else K' (a.put o.dst undef) w):
 zdx P md ops Q S L (fuel+1) listed a w:=by
 refine⟨fun k=>(by rw[hr]at k;cases k),fun j hj=>?_⟩;rw[hr]at hj;obtain rfl:j=L:=by simpa using hj
 refine wpOp_step ho (fun K' hK=>h K' (fun a w hq=>hK a w ⟨fun k=>absurd rfl k,?_⟩));cases fuel with
 | zero=>exact⟨hd,hq⟩| succ n=>exact⟨fun _=>hq,fun i hi=>(by rw[hd]at hi;cases hi)⟩
theorem za4{id:Nat}{a:Act}{w:World}(L:Nat)(hm:P.follows .mixedOrders=true)(hS:S w.drew)(h:S w.drew->zdx P .any ops Q S L ops.size (Array.replicate ops.size false) a w.drew):(Code.region id ops true).wp P Q a w :=
 wp_region_any hm (zh6 _ _ _ _ (h hS))
end
section
variable {P:Program} {ops:Array Oper} {Q:Exit->Act->World->Prop} {md:Region.Mode} {S:World->Prop} {L:Nat}
def zdb(P:Program)(md:Region.Mode)(ops:Array Oper)(Q:Exit->Act->World->Prop)(S:World->Prop)(L:Nat):Nat->Array Bool->Act->World->Prop
 | 0,listed,a,w=>Region.ready md ops listed=[]/\Q .normal a w
 | fuel+1,listed,a,w =>
  (Region.ready md ops listed=[]->Q .normal a w) /\
  ∀i ∈ Region.ready md ops listed,wpOp P ops Q i (fun a' w'=>((listed.setIfInBounds i true).getD L true=false->S w')/\zdb P md ops Q S L fuel (listed.setIfInBounds i true) a' w') a w
theorem zh7:∀(fuel:Nat) (listed:Array Bool) (a:Act) (w:World),zdb P md ops Q S L fuel listed a w->wpAny P md ops Q fuel listed a w
 | 0,_,_,_,h=>h| fuel+1,_,_,_,h=>⟨h.1,fun i hi=>wpOp_mono (fun a' w' h'=>zh7 fuel _ a' w' h'.2) (h.2 i hi)⟩
section
variable{i:Nat}{oi:Oper}{v:Value}
theorem znp(hi:ops[i]?=some oi)(hsel:∀(j:Nat) (o:Oper) cs b,ops[j]?=some o->o.op≠.select cs b)(hQ:∀c a w,Q (.panic c) (a.put oi.dst v) w->Q (.panic c) a w)(hw:zoi md ops L i=true)(hiL:i≠L):
 ∀(fuel:Nat) (listed:Array Bool) (a:Act) (w:World),listed.getD L true=false ->
  (∀j oj,ops[j]?=some oj->j≠i->listed.getD j true=false->(∀e ∈ oj.after,Region.binds md e=true->e.on≠i)->oi.apart ops oj=true) ->
  i ∈ Region.ready md ops listed->YieldsIf P ops S oi v a->S w ->
  zdb P md ops Q S L fuel (listed.setIfInBounds i true) (a.put oi.dst v) w->zdb P md ops Q S L (fuel+1) listed a w:=by
 intro fuel;induction fuel with
 | zero =>
  intro listed a w hl _ hr hy hS H;refine⟨fun h=>(by rw[h]at hr;cases hr),fun j hj=>?_⟩;by_cases hji:j=i
  ·subst hji;exact hy.wpOp hi hS ⟨fun _=>hS,H⟩
  ·have k:=ready_mono hj hji;rw[H.1]at k;cases k
 | succ fuel ih =>
  intro listed a w hl hfree hr hy hS H;refine⟨fun h=>(by rw[h]at hr;cases hr),fun j hj=>?_⟩;by_cases hji:j=i
  ·subst hji;exact hy.wpOp hi hS ⟨fun _=>hS,H⟩
  ·have hjL:j≠L:=fun e=>zno hw hr (e ▸ hj);have h1:=H.2 j (ready_mono hj hji);obtain⟨hjun,oj,hoj,hall⟩:=mem_ready.1 hj;have hnot:∀e ∈ oj.after,Region.binds md e=true->e.on≠i:=by
    intro e he hb heq;have k1:=hall e he hb;have k0:=(mem_ready.1 hr).1;rw[heq]at k1;rcases Nat.lt_or_ge i listed.size with h'|h'
    ·simp[h']at k0 k1;rw[k0]at k1;cases k1
    ·simp[Array.getElem?_eq_none h']at k1
   have hl2:(listed.setIfInBounds j true).getD L true=false:=(by rw[getD_set_ne true hjL];exact hl);have hl3:((listed.setIfInBounds i true).setIfInBounds j true).getD L true=false:=(by rw[getD_set_ne true hjL,getD_set_ne true hiL];exact hl);have h2:=wpOp_putIf hoj (hfree j oj hoj hji hjun hnot) (fun cs b=>hsel i oi cs b hi) (fun cs b=>hsel j oj cs b hoj) hQ hy h1;refine wpOp_mono (fun a' w' h3=>⟨fun _=>h3.2.1 hl3,ih (listed.setIfInBounds j true) a' w' hl2 ?_ (ready_mono hr (Ne.symm hji)) h3.1 (h3.2.1 hl3) ?_⟩) h2
   ·intro k ok hk hki hun hno;refine hfree k ok hk hki ?_ hno;by_cases hjk:j=k
    ·subst hjk;exact hjun
    ·rw[getD_set_ne true hjk]at hun;exact hun
   ·rw[Array.setIfInBounds_comm _ _ hji];exact h3.2.2
theorem zwn(hi:ops[i]?=some oi)(hsel:∀(j:Nat) (o:Oper) cs b,ops[j]?=some o->o.op≠.select cs b)(hQ:∀c a w,Q (.panic c) (a.put oi.dst v) w->Q (.panic c) a w)(hiL:i≠L):
 ∀(fuel:Nat) (listed:Array Bool) (a:Act) (w:World),(listed.getD L true=false->S w) ->
  (∀j oj,ops[j]?=some oj->j≠i->listed.getD j true=false->(∀e ∈ oj.after,Region.binds md e=true->e.on≠i)->oi.apart ops oj=true) ->
  i ∈ Region.ready md ops listed->YieldsIf P ops (fun _=>True) oi v a ->
  zdb P md ops Q S L fuel (listed.setIfInBounds i true) (a.put oi.dst v) w->zdb P md ops Q S L (fuel+1) listed a w:=by
 intro fuel;induction fuel with
 | zero =>
  intro listed a w hl _ hr hy H;refine⟨fun h=>(by rw[h]at hr;cases hr),fun j hj=>?_⟩;by_cases hji:j=i
  ·subst hji;exact hy.wpOp hi trivial ⟨fun q=>hl (by rw[getD_set_ne true hiL]at q;exact q),H⟩
  ·have k:=ready_mono hj hji;rw[H.1]at k;cases k
 | succ fuel ih =>
  intro listed a w hl hfree hr hy H;refine⟨fun h=>(by rw[h]at hr;cases hr),fun j hj=>?_⟩;by_cases hji:j=i
  ·subst hji;exact hy.wpOp hi trivial ⟨fun q=>hl (by rw[getD_set_ne true hiL]at q;exact q),H⟩
  ·have h1:=H.2 j (ready_mono hj hji);obtain⟨hjun,oj,hoj,hall⟩:=mem_ready.1 hj;have hnot:∀e ∈ oj.after,Region.binds md e=true->e.on≠i:=by
    intro e he hb heq;have k1:=hall e he hb;have k0:=(mem_ready.1 hr).1;rw[heq]at k1;rcases Nat.lt_or_ge i listed.size with h'|h'
    ·simp[h']at k0 k1;rw[k0]at k1;cases k1
    ·simp[Array.getElem?_eq_none h']at k1
   have hl3:∀b,(listed.setIfInBounds j true).getD L true=b->((listed.setIfInBounds i true).setIfInBounds j true).getD L true=b:=fun b hb=>(by rw[Array.setIfInBounds_comm _ _ (Ne.symm hji),getD_set_ne true hiL];exact hb);have h2:=wpOp_putIf hoj (hfree j oj hoj hji hjun hnot) (fun cs b=>hsel i oi cs b hi) (fun cs b=>hsel j oj cs b hoj) hQ hy h1;refine wpOp_mono (fun a' w' h3=>⟨fun q=>h3.2.1 (hl3 _ q),ih (listed.setIfInBounds j true) a' w' (fun q=>h3.2.1 (hl3 _ q)) ?_ (ready_mono hr (Ne.symm hji)) h3.1 ?_⟩) h2
   ·intro k ok hk hki hun hno;refine hfree k ok hk hki ?_ hno;by_cases hjk:j=k
    ·subst hjk;exact hjun
    ·rw[getD_set_ne true hjk]at hun;exact hun
   ·rw[Array.setIfInBounds_comm _ _ hji];exact h3.2.2
end
theorem zeg(i:Nat){oi:Oper}{v:Value}{fuel:Nat}{listed:Array Bool}{a a':Act}{w:World}(hi:ops[i]?=some oi)(h:zdb P md ops Q S L fuel (listed.setIfInBounds i true) a' w)(hs:Region.noSelect ops=true:=by kernel_rfl)(hf:Region.free md ops listed i=true:=by kernel_rfl)(hr:(Region.ready md ops listed).contains i=true:=by kernel_rfl)(hw:zoi md ops L i=true:=by kernel_rfl)(hiL:i≠L:=by decide)(hl:listed.getD L true=false:=by kernel_rfl)(hQ:∀c a w,Q (.panic c) (a.put oi.dst v) w->Q (.panic c) a w:=by exact fun _ _ _ h=>h)(hg:Region.wanted oi (yielded ops a.tmps)=true:=by rfl)(hy:∀w,S w->(execOp a.eval oi).run P w=.ok (.value v) w:=by (intro w' hSw;(try dsimp only at hSw);go_simp;try with_reducible rfl))(ha:a.put oi.dst v=a':=by ((try simp only[nrm]);exact rfl))(hS:S w:=by assumption):zdb P md ops Q S L (fuel+1) listed a w:=by
 subst ha;exact znp hi (Region.noSelect_spec hs) hQ hw hiL fuel listed a w hl (Region.free_spec hi hf) (by simpa using hr) (Or.inl ⟨hg,hy⟩) hS h
theorem z1g(i:Nat){oi:Oper}{v:Value}{fuel:Nat}{listed:Array Bool}{a:Act}{w:World}(hi:ops[i]?=some oi)(hy:∀w,S w->(execOp a.eval oi).run P w=.ok (.value v) w)(h:zdb P md ops Q S L fuel (listed.setIfInBounds i true) (a.put oi.dst v) w)(hs:Region.noSelect ops=true:=by kernel_rfl)(hf:Region.free md ops listed i=true:=by kernel_rfl)(hr:(Region.ready md ops listed).contains i=true:=by kernel_rfl)(hw:zoi md ops L i=true:=by kernel_rfl)(hiL:i≠L:=by decide)(hl:listed.getD L true=false:=by kernel_rfl)(hQ:∀c a w,Q (.panic c) (a.put oi.dst v) w->Q (.panic c) a w:=by exact fun _ _ _ h=>h)(hg:Region.wanted oi (yielded ops a.tmps)=true:=by rfl)(hS:S w:=by assumption):zdb P md ops Q S L (fuel+1) listed a w :=
 znp hi (Region.noSelect_spec hs) hQ hw hiL fuel listed a w hl (Region.free_spec hi hf) (by simpa using hr) (Or.inl ⟨hg,hy⟩) hS h
theorem za9(i:Nat){oi:Oper}{v:Value}{fuel:Nat}{listed:Array Bool}{a a':Act}{w:World}(hi:ops[i]?=some oi)(h:zdb P md ops Q S L fuel (listed.setIfInBounds i true) a' w)(hs:Region.noSelect ops=true:=by kernel_rfl)(hf:Region.free md ops listed i=true:=by kernel_rfl)(hr:(Region.ready md ops listed).contains i=true:=by kernel_rfl)(hiL:i≠L:=by decide)(hQ:∀c a w,Q (.panic c) (a.put oi.dst v) w->Q (.panic c) a w:=by exact fun _ _ _ h=>h)(hg:Region.wanted oi (yielded ops a.tmps)=true:=by rfl)(hy:∀w:World,True->(execOp a.eval oi).run P w=.ok (.value v) w:=by (intro w' hSw;go_simp;try with_reducible rfl))(ha:a.put oi.dst v=a':=by ((try simp only[nrm]);exact rfl))(hS:S w:=by assumption):zdb P md ops Q S L (fuel+1) listed a w:=by
 subst ha;exact zwn hi (Region.noSelect_spec hs) hQ hiL fuel listed a w (fun _=>hS) (Region.free_spec hi hf) (by simpa using hr) (Or.inl ⟨hg,hy⟩) h
theorem zex(i:Nat){o:Oper}{fuel:Nat}{listed:Array Bool}{a:Act}{w:World}(ho:ops[i]?=some o)(h:∀K':Act->World->Prop,Shut (∀a w,S w->(S w->zdb P md ops Q S L fuel (listed.setIfInBounds i true) a w)->K' a w)->if Region.wanted o (yielded ops a.tmps)=true then Oper.wp P o a w K' Q else K' (a.put o.dst undef) w)(hr:Region.ready md ops listed=[i]:=by kernel_rfl):
 zdb P md ops Q S L (fuel+1) listed a w:=by
 refine⟨fun k=>(by rw[hr]at k;cases k),fun j hj=>?_⟩;rw[hr]at hj;obtain rfl:j=i:=by simpa using hj
 exact wpOp_step ho (fun K' hK=>h K' (fun a w hS hW=>hK a w ⟨fun _=>hS,hW hS⟩))
theorem tillT(i j:Nat){o p:Oper}{fuel:Nat}{listed:Array Bool}{a:Act}{w:World}(ho:ops[i]?=some o)(hp:ops[j]?=some p)(h:∀K':Act->World->Prop,Shut (∀a w,S w->(S w->zdb P md ops Q S L fuel (listed.setIfInBounds i true) a w)->K' a w)->if Region.wanted o (yielded ops a.tmps)=true then Oper.wp P o a w K' Q else K' (a.put o.dst undef) w)(k:∀K':Act->World->Prop,Shut (∀a w,S w->(S w->zdb P md ops Q S L fuel (listed.setIfInBounds j true) a w)->K' a w)->if Region.wanted p (yielded ops a.tmps)=true then Oper.wp P p a w K' Q else K' (a.put p.dst undef) w)(hr:Region.ready md ops listed=[i,j]:=by kernel_rfl):
 zdb P md ops Q S L (fuel+1) listed a w:=by
 refine⟨fun e=>(by rw[hr]at e;cases e),fun n hn=>?_⟩;rw[hr]at hn;rcases List.mem_cons.1 hn with rfl|hn
 ·exact wpOp_step ho (fun K' hK=>h K' (fun a w hS hW=>hK a w ⟨fun _=>hS,hW hS⟩))
 ·obtain rfl:n=j:=(by simpa using hn);exact wpOp_step hp (fun K' hK=>k K' (fun a w hS hW=>hK a w ⟨fun _=>hS,hW hS⟩))
theorem zlk{o:Oper}{fuel:Nat}{listed:Array Bool}{a:Act}{w:World}(ho:ops[L]?=some o)(h:∀K':Act->World->Prop,Shut (∀a w,Q .normal a w->K' a w)->if Region.wanted o (yielded ops a.tmps)=true then Oper.wp P o a w K' Q else K' (a.put o.dst undef) w)(hr:Region.ready md ops listed=[L]:=by kernel_rfl)(hd:Region.ready md ops (listed.setIfInBounds L true)=[]:=by kernel_rfl)(hz:(listed.setIfInBounds L true).getD L true=true:=by kernel_rfl):
 zdb P md ops Q S L (fuel+1) listed a w:=by
 refine⟨fun k=>(by rw[hr]at k;cases k),fun j hj=>?_⟩;rw[hr]at hj;obtain rfl:j=L:=by simpa using hj
 refine wpOp_step ho (fun K' hK=>h K' (fun a w hq=>hK a w ⟨fun k=>(by rw[hz]at k;cases k),?_⟩));cases fuel with
 | zero=>exact⟨hd,hq⟩| succ n=>exact⟨fun _=>hq,fun i hi=>(by rw[hd]at hi;cases hi)⟩
theorem zhv{id:Nat}{a:Act}{w:World}(L:Nat)(hm:P.follows .mixedOrders=true)(hS:S w.drew)(h:S w.drew->zdb P .any ops Q S L ops.size (Array.replicate ops.size false) a w.drew):(Code.region id ops true).wp P Q a w :=
 wp_region_any hm (zh7 _ _ _ _ (h hS))
end
section
variable {P:Program} {ops:Array Oper} {Q:Exit->Act->World->Prop} {S H I J:World->Prop} {id:Nat} {a:Act} {w:World}
theorem zcj(HS:Hid (∀w,H w->S w))(hH:H w.drew)(h:S w.drew->wpAnyH P .any ops Q S ops.size (Array.replicate ops.size false) a w.drew)(hm:P.follows .mixedOrders=true:=by kernel_rfl):(Code.region id ops true).wp P Q a w:=wp_region_held_drew hm (HS.out _ hH) h
theorem ze9(L:Nat)(HS:Hid (∀w,H w->S w))(hH:H w.drew)(h:S w.drew->zdx P .any ops Q S L ops.size (Array.replicate ops.size false) a w.drew)(hm:P.follows .mixedOrders=true:=by kernel_rfl):(Code.region id ops true).wp P Q a w:=za4 L hm (HS.out _ hH) h
theorem z0u(L:Nat)(HS:Hid (∀w,H w->S w))(hH:H w.drew)(h:S w.drew->zdb P .any ops Q S L ops.size (Array.replicate ops.size false) a w.drew)(hm:P.follows .mixedOrders=true:=by kernel_rfl):(Code.region id ops true).wp P Q a w:=zhv L hm (HS.out _ hH) h
theorem z0v(L:Nat)(HS:Hid (∀w,H w->I w->S w))(hH:H w.drew)(hI:I w.drew)(h:S w.drew->zdb P .any ops Q S L ops.size (Array.replicate ops.size false) a w.drew)(hm:P.follows .mixedOrders=true:=by kernel_rfl):(Code.region id ops true).wp P Q a w:=zhv L hm (HS.out _ hH hI) h
theorem znq(L:Nat)(HS:Hid (∀w,H w->I w->J w->S w))(hH:H w.drew)(hI:I w.drew)(hJ:J w.drew)(h:S w.drew->zdb P .any ops Q S L ops.size (Array.replicate ops.size false) a w.drew)(hm:P.follows .mixedOrders=true:=by kernel_rfl):(Code.region id ops true).wp P Q a w:=zhv L hm (HS.out _ hH hI hJ) h
end
theorem zm5{n:Nat}(h:n<=1048576):n<=maxLen:=ntr h (by unfold maxLen;omega)
theorem zix{α:Type}{K:List α}{f:α->Nat}(h:∀c ∈ K,f c<=1048576):∀c ∈ K,f c<=maxLen:=fun c hc=>zm5 (h c hc)
end Go.Proofs.YthiojkjcmhojoaaGreat
