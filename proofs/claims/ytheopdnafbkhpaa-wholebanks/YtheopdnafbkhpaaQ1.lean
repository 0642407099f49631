/- WholeBanks: part 1. -/
import Derived.Test.YtheopdnafbkhpaaQa
import Derived.Test.YtheopdnafbkhpaaQ0
import Derived.Orders
import Derived.Test.YtheopdnafbkhpaaChecked
import Derived.Conc.WgLib
import Derived.KernelRfl
import Derived.Conc.CrowdBase
import Derived.Test.YtheopdnafbkhpaaProg
import Derived.Test.YtheopdnafbkhpaaRows
import Derived.Conc.Beside
import Derived.Conc.CrowdTrace
set_option maxRecDepth 100000
set_option maxHeartbeats 8000000
set_option linter.unusedVariables false
set_option linter.unusedSimpArgs false
open Array renaming getElem?_eq_getElem->r9,getElem?_eq_some_iff->r7,getElem?_modify->x6,getElem?_push->p6,mem_of_getElem?->o6,replicate->l3,size_map->C4
open Bool renaming false_eq_true->r5,or_eq_true->B8
open Classical renaming byContradiction->j4
open False renaming elim->n9
open Go renaming Code->D9,CommCase->E5,CommShape->A1,Deferred->x7,Event->p8,FuncId->r4,Goroutine->j0,HappensBefore->C9,Item->C1,MemOp->u4,Obj->E8,Operand->s6,Program->o8,Trace->D4,TypeId->y4,Value->l9,callFunc->x9,deafBehind->l4,doReturn->E2,execOp->m4,exitTo->D8,invoke->C3,mem_ready->D2,partners->C7,resolve->w6,stepG->j2,undef->U,unwind->A0,yielded->n3
open Go.Act renaming eval->p7
open Go.Code renaming region->x8
open Go.CommCase.mk renaming injEq->F4
open Go.Conc renaming Deaf->k8,NoRelease->D6,again_running->y8,base->A2,deafBehind_still->n7,enter_at->E3,events_results_none->y6,finishComm_recv->x4,finishComm_send->C0,heard_old->A6,listed->u0,mem_ofEvents->l6,noRace_append->u1,offersAt_of_not_blocked->v7,offersAt_parked_recv->q7,offersAt_parked_send->q6,offersAt->r8,parked->j8,ph->w9,rcase->n8,recvd->D7,runT_crowd_go->o5,scase->n5,seen_app->z7,seen_none->r3,semEvents->m7,served->l2,stepG_end->A3,stepG_enter->A9,stepG_leave->B0,stepG_region_end->l5,stepG_region->m9,stepG_seq->u3,stepG_value->A8,touchAt_of->w8,touchAt->w7,touch_mute->C6,touch_of->q5,ways_recv_none->C8,woken->o4
open Go.Conc.Lib renaming WgLib->E9,WgLink->E7
open Go.ConcN renaming RelBy->D5,sumTo_congr->B2,sumTo->B1,upd_ne->j3,upd_same->h9,upd->l7
open Go.ConcR renaming loc_of_ofEvent->n6,mk->q8,wgBlock->A7
open Go.Deferred renaming ofValue->m3
open Go.Extern renaming findNext->B6,find->E4
open Go.Extern.MathFloatBits renaming float64bits->z5,float64frombits->y7
open Go.Frame renaming finish_at->B5,todo->E6
open Go.GStep renaming after->m6
open Go.GStep.comm renaming injEq->F8
open Go.Goroutine renaming again->o0,offers->j9
open Go.IntKind renaming i64->G1,wrap_i64->A4
open Go.Item renaming code->F6
open Go.MemAct renaming ofEvent->j1,touch?->l8
open Go.MemOp renaming ofEvents->j5
open Go.Obj renaming cells->F7
open Go.Region renaming binds->v9,schedule->m8,wanted->j7
open Go.Region.linearise renaming go->q9
open Go.Trace renaming g?->z6
open Go.Value renaming int->G0,pointer->G2
open Go.World renaming cell?->s7,setCell->D1
open Go.stepG renaming exec->o7
open List renaming ext_getElem?->z8,getElem?_set->z9,mem_cons->q4,mem_toArray->q2,not_mem_nil->p5,range->p9,replicate->C5,setIfInBounds_toArray->r6,set_cons_succ->y9,set_cons_zero->z3
open Nat renaming le_refl->k9,lt_of_lt_of_le->j6,lt_succ_self->o9,mod_eq_of_lt->A5
open Option renaming getD_some->u2,map_eq_some_iff->m5,map_some->B4,some->S
open Option.some renaming injEq->s5,inj->F9
open Relation renaming TransGen->z4
namespace Go.Proofs.Ytheopdnafbkhpaa
open Go.Conc Go.ConcN Go.RowKit
variable {B:Nat->Nat->Prop}{C:Nat->Bool}{E:Env}{F:aq}{H:Code}{I:aq->Goroutine->World->Prop}{J g:Goroutine}{L:bC}{M:Ph}{N:Value}{P:Program}{Q:Array Value->World->Prop}{T:Nat->Loc->Prop}{V:Oper}{W Z i n:Nat}{X:Nat->Prop}{Y:Func}{a:aq->Goroutine->World->Nat->Prop}{b:ca->Tr->bC->List Ak->aq->Goroutine->World->Prop}{c:Array Goroutine}{d:Option (Nat×Nat)}{e:World->Nat->Value->Tr}{f:FuncId}{h:Option Nat×List Deferred}{j:List bC}{k:List Item}{l:List Frame}{m:Bool}{o:Array Event}{p:Array Oper}{q:Frame}{r:aU}{s:List Ak}{t:Trace}{v w:World}{x:ca}{y:Array Value}{z:List Nat}
theorem Zb{p:Prop}(h:p:=by kernel_rfl):p:=h
theorem Zc{p:Prop}(h:p:=by simp[Ph.late]):p:=h
theorem Zd{p:Prop}(h:p:=by k_ne):p:=h
theorem Ze{p:Prop}(h:p:=by go_simp):p:=h
theorem Zf{p:Prop}(h:p:=by simp[Go.ConcR.mk]):p:=h
theorem Zg{p:Prop}(h:p:=by simp only[Loc.low];omega):p:=h
section
variable {P:Program}{cs:Nat->Bool}{r:aU}{v w:World}{m m':Bool}{l:List Frame}{k:List Item}{fn:FuncId}{z0:Option Nat×List Deferred}
inductive xd (P:o8)(cs:Nat->Bool)(r:aU)(k:List C1)(l:List Frame)(fn:r4)(z0:Option Nat×List x7):j0->j0->Prop
 | same {x y:Array l9} {pre:List C1}:aB r x y->pre.all (bp P cs)=true->xd P cs r k l fn z0 (G (ak fn x pre) [cB]) (G (aR z0 fn y (pre ++ k)) l)
 | left {x:Array l9} {todo:List C1} {g2:j0}:xd P cs r k l fn z0 (G (cP fn x todo) [cB]) g2
 | call {a b:Frame} {x y:Array l9} {ops:Array Oper} {i:Nat} {rest:List Nat} {todo:List C1}:FR P cs r a b->aB r x y->(Item.inRegion ops (i::rest)::todo).all (bp P cs)=true->xd P cs r k l fn z0 (G a [ak fn x (.inRegion ops (i::rest)::todo),cB]) (G b (aR z0 fn y (.inRegion ops (i::rest)::(todo ++ k))::l))
def StepB (P:o8)(q:Nat->Bool)(r:aU)(v w:World)(m s:Bool)(a b:Frame)(k:List C1)(l:List Frame)(fn:r4)(t:Option Nat×List x7):Prop:=
 (∃o c d,j2 P m (G a [cB]) v= .ended o c d)\/
 (∃u c d,j2 P m (G a [cB]) v= .go (G {a with mode:= .panicking u} [cB]) c d)\/
 (∃x f c d,j2 P m (G a [cB]) v= .go (G (cP fn x f) [cB]) c d)\/
 ∃i c d,j2 P m (G a [cB]) v= .go i c d/\ ∀n,c.drawn<=v.drawn + n->Ag n v w->
  ∃g j h p,j2 P s (G b l) w= .go j h p/\dA g c h/\jf r g v w c h/\(∀e∈p,jd g c e)/\xd P q g k l fn t i j
theorem StepB.move (c:dA r v w){a b:Frame}{x:Array l9}{pre:List C1}(d:j2 P m (G a [cB]) v= .go (G (ak fn x pre) [cB]) v)(f:j2 P m' (G b l) w= .go (G (aR h fn y (pre ++ k)) l) w)(g:aB r x y)(i:pre.all (bp P cs)=true):StepB P cs r v w m m' a b k l fn h:=
 .inr (.inr (.inr ⟨_,v,_,d,λ_ _ _=>⟨r,_,w,_,f,c,.refl _ _ _,λe j=>by simp at j,.same g i⟩⟩))
theorem lQ {a:Nat}: ∀ {p q:List Item},D8 a p=S q->D8 a (p ++ k)=S (q ++ k)
 | [],_,h=>by simp[D8]at h
 | it::p,q,h=>by
  cases it<;>simp only[List.cons_append,D8]at h ⊢
  case inBlock i=>
   split at h
   ·grind
   ·rename_i e;rw[if_neg e];exact lQ h
  all_goals exact lQ h
theorem zU{C:List Frame}{t:List C1}(e:p[i]? =S V)(f:j7 V (n3 p y)=true)(d:jM P cs V.op=true):
  j2 P m (G (aR h fn y (.inRegion p (i::z)::t)) C) w=stepG.apply P true (aR h fn y (.inRegion p (i::z)::t)) C none (m4 (aR h fn y (.inRegion p (i::z)::t)).eval V) w:=by
 obtain ⟨a,b⟩:=h;have j: ∀c,V.op≠ .defer c:=λc g=>by rw[g]at d;cases d
 simp only[G,aR,j2,o7,e,f,B4,u2,if_true,stepG.oper,Frame.oper?];grind
theorem ks(a:l9):
  (aR h fn y (.inRegion p (i::z)::k)).finish a=aR h fn (match (p[i]?).bind (·.dst)with | some d=>y.setIfInBounds d a | none=>y) (.inRegion p z::k):=rfl
theorem wv (hP:sG P cs)(I:dA r v w){x:Array Value}(J:aB r x y){T:Item}{j:List Item}(ho:(T::j).all (bp P cs)=true):StepB P cs r v w m m' (ak fn x (T::j)) (aR z0 fn y (T::j ++ k)) k l fn z0:=by
 rw[List.all_cons,Bool.and_eq_true]at ho;obtain ⟨E,K⟩:=ho;have a0: ∀ {q:List Item},q.all (bp P cs)=true->(q ++ j).all (bp P cs)=true:=YS;have N: ∀ (q:List Item),q.all (bp P cs)=true->(∀ (B:Option Nat×List Deferred)(F:Bool)(z:Array Value)(C:List Frame)(u:World)(t:List Item),j2 P F (G (aR B fn z (T::t)) C) u= .go (G (aR B fn z (q ++ t)) C) u)->StepB P cs r v w m m' (ak fn x (T::j)) (aR z0 fn y (T::j ++ k)) k l fn z0:=λq hq h=>.move I (pre:=q ++ j) (h (none,[]) _ _ _ _ _) YS J (a0 hq);cases T with
 | inBlock id=>exact N [] R λB F z C u t=>YV
 | inLoop c=>exact N [.code c,.inLoop c] (by simpa[bp]using E) λB F z C u t=>YV
 | code c=>
  cases c with
  | skip=>exact N [] R λB F z C u t=>YV
  | ret=>exact .inr (.inr (.inl ⟨x,.code .ret::j,v,_,by simp[G,ak,cP,j2,o7];rfl⟩))
  | seq p q=>exact N [.code p,.code q] (by simpa[bp,ct]using E) λB F z C u t=>YV
  | block id p=>exact N [.code p,.inBlock id] (by simpa[bp,ct]using E) λB F z C u t=>YV
  | loop p=>exact N [.code p,.inLoop p] (by simpa[bp,ct]using E) λB F z C u t=>YV
  | exit id=>
   cases O:exitTo id j with
   | none=>exact .inl ⟨_,_,_,by simp[G,ak,j2,o7,O];exact ⟨R,R,R⟩⟩
   | some V=>exact .move I (pre:=V) (by simp[G,ak,j2,o7,O]) (by simp[G,aR,j2,o7,lQ O]) J (kW O K)
  | cond c p q=>
   simp only[bp,ct,Bool.and_eq_true]at E;obtain ⟨⟨o1,o2⟩,o3⟩:=E;have hc:=(ia (fn:=fn) (fn':=fn) (t:= .code (.cond c p q)::j) (t':= .code (.cond c p q)::(j ++ k)) (d:= []) (d':= []) (m:= .run) (m':= .run) (k:= .normal) (k':= .normal) J).vr c o1;change VR r ((ak fn x (.code (.cond c p q)::j)).eval c) ((aR z0 fn y (.code (.cond c p q)::(j ++ k))).eval c)at hc;have H: ∀ (B:Option Nat×List Deferred)(F:Bool)(z:Array Value)(C:List Frame)(u:World)(g:Bool)(t:List Item),(aR B fn z (.code (.cond c p q)::t)).eval c= .bool g->j2 P F (G (aR B fn z (.code (.cond c p q)::t)) C) u= .go (G (aR B fn z (.code (if g then p else q)::t)) C) u:=λB F z C u g t h=>by simp only[aR]at h;simp[G,aR,j2,o7,h]
   generalize h1:(ak fn x (.code (.cond c p q)::j)).eval c=e1 at hc;generalize h2:(aR z0 fn y (.code (.cond c p q)::(j ++ k))).eval c=e2 at hc;have no:(∀g,e1≠ .bool g)->StepB P cs r v w m m' (ak fn x (.code (.cond c p q)::j)) (aR z0 fn y (.code (.cond c p q)::j ++ k)) k l fn z0:=λhn=>by refine .inl ⟨.stuck "cond: bool expected" ((ak fn x (.code (.cond c p q)::j)).pos P),v,#[],?_⟩;simp only[ak]at h1;simp only[G,ak,j2,o7,h1]
   cases hc with
   | bool g=>
    refine .move I (pre:= .code (if g then p else q)::j) (H (none,[]) m x [cB] v g j h1) (H z0 m' y l w g (j ++ k) h2) J ?_;rw[List.all_cons,K,Bool.and_true];cases g
    ·exact o3
    ·exact o2
   | _=>exact no YR
  | region id s d=>
   cases d with
   | false=>exact N [.inRegion s (List.range s.size)] (by simpa[bp,ct]using E) λB F z C u t=>YV
   | true=>
    have H: ∀ (B:Option Nat×List Deferred)(F:Bool)(z:Array Value)(C:List Frame)(u:World)(t:List Item),j2 P F (G (aR B fn z (.code (.region id s true)::t)) C) u= .go (G (aR B fn z (.inRegion s (m8 (P.follows .mixedOrders) s (u.tape u.drawn (.order fn id)))::t)) C) {u with drawn:=u.drawn + 1}:=λB F z C u t=>by rfl
    refine .inr (.inr (.inr ⟨_,_,_,H (none,[]) m x [cB] v j,λn hd W=> ?_⟩));have h0:=W 0 (.order fn id) YS;simp only[Nat.add_zero]at h0;refine ⟨r,_,_,_,H z0 m' y l w (j ++ k),⟨I.size,I.inj,I.low,I.et,I.pos,I.cells,I.num⟩,
     ⟨.refl r,λ_ _ _ h=> .inl h,Nat.le_refl _,λ_ _ _=>rfl,R,R,R,R,YR,YT,Nat.le_refl _,λ_ _=>Iff.rfl,λ_ _=>Iff.rfl,λ_ c _ f h=>⟨c,f,h⟩⟩,λe O=>by simp at O,?_⟩
    rw[<-h0];refine .same (pre:= .inRegion s (m8 (P.follows .mixedOrders) s (v.tape v.drawn (.order fn id)))::j) J ?_;rw[List.all_cons,K,Bool.and_true];exact E
  | _=>cases E
 | inRegion s X=>
  cases X with
  | nil=>exact N [] R λB F z C u t=>YV
  | cons i A=>
   have hy:=qD J s;have Q: ∀ (M:aU)(p q:Value),Ext r M->VR M p q->xd P cs M k l fn z0 (G ((ak fn x (.inRegion s (i::A)::j)).finish p) [cB]) (G ((aR z0 fn y (.inRegion s (i::A)::(j ++ k))).finish q) l):=λM p q hx L=>by
    rw[iH,ks];refine .same (pre:= .inRegion s A::j) ?_ (by rw[List.all_cons,K,Bool.and_true];assumption);cases (s[i]?).bind (·.dst)with
    | none=>exact aB.mono hx J
    | some d=>exact (aB.mono hx J).set L
   by_cases hw:((s[i]?).map (j7 · (n3 s x))).getD false=true
   ·cases Y:s[i]? with
    | none=>grind
    | some o=>
     have Z:=zk E Y;have H: ∀ (B:Option Nat×List Deferred)(F:Bool)(z:Array Value)(C:List Frame)(u:World)(t:List Item),n3 s x=n3 s z->j2 P F (G (aR B fn z (.inRegion s (i::A)::t)) C) u=stepG.apply P true (aR B fn z (.inRegion s (i::A)::t)) C none (m4 (aR B fn z (.inRegion s (i::A)::t)).eval o) u:=λB F z C u t hz=>by
      rw[Y,hz]at hw;have a2:j7 o (n3 s z)=true:=by simpa using hw
      exact zU Y a2 Z
     have a1:((Item.inRegion s (i::A))::j).all (bp P cs)=true:=by rw[List.all_cons,K,Bool.and_true];exact E
     have key:=qw (P:=P) (cs:=cs) I (a:=ak fn x (.inRegion s (i::A)::j)) (b:=aR z0 fn y (.inRegion s (i::A)::(j ++ k))) (C:= [cB]) (D:=l) R R R (by simp[ak]) (by simp[aR])
      (jR hP.ok (ia (fn:=fn) (fn':=fn) (t:= .inRegion s (i::A)::j) (t':= .inRegion s (i::A)::j) (d:= []) (d':= []) (m:= .run) (m':= .run) (k:= .normal) (k':= .normal) J.self) o Z)
      (jR hP.ok (ia (fn:=fn) (fn':=fn) (t:= .inRegion s (i::A)::j) (t':= .inRegion s (i::A)::(j ++ k)) (d:= []) (d':= []) (m:= .run) (m':= .run) (k:= .normal) (k':= .normal) J) o Z)
      (xd P cs · k l fn z0) (λM p q hx L=>Q M p q hx L)
      (λM f p q hx a3 L=> .call (FR.enter hP a3 L) (aB.mono hx J) a1)
     rcases key with h | h | ⟨g1,v1,es,e1,_,e2⟩
     ·exact .inl (by obtain ⟨o',v1,es,e⟩:=h;exact ⟨o',v1,es,by rw[show ak fn x (.inRegion s (i::A)::j)=aR (none,[]) fn x (.inRegion s (i::A)::j)from rfl,H (none,[]) m x _ _ _ R];exact e⟩)
     ·exact .inr (.inl (by obtain ⟨ch,v1,es,e⟩:=h;exact ⟨ch,v1,es,by rw[show ak fn x (.inRegion s (i::A)::j)=aR (none,[]) fn x (.inRegion s (i::A)::j)from rfl,H (none,[]) m x _ _ _ R];exact e⟩))
     ·refine .inr (.inr (.inr ⟨g1,v1,es,by rw[show ak fn x (.inRegion s (i::A)::j)=aR (none,[]) fn x (.inRegion s (i::A)::j)from rfl,H (none,[]) m x _ _ _ R];exact e1,λn hd W=> ?_⟩));obtain ⟨M,g2,w1,fs,k1,k2⟩:=e2 n hd W;exact ⟨M,g2,w1,fs,by rw[List.cons_append,H z0 m' y _ _ _ hy];exact k1,k2⟩
   ·have H: ∀ (B:Option Nat×List Deferred)(F:Bool)(z:Array Value)(C:List Frame)(u:World)(t:List Item),n3 s x=n3 s z->j2 P F (G (aR B fn z (.inRegion s (i::A)::t)) C) u= .go (G ((aR B fn z (.inRegion s (i::A)::t)).finish U) C) u:=λB F z C u t hz=>by rw[hz]at hw;simp only[Bool.not_eq_true]at hw;simp[G,aR,j2,o7,hw]
    exact .inr (.inr (.inr ⟨_,v,_,H (none,[]) m x _ v j R,λ_ _ _=>⟨r,_,w,_,H z0 m' y l w (j ++ k) hy,I,.refl _ _ _,λe O=>by simp at O,Q r _ _ (.refl r) (eK.vr r)⟩⟩))
 | _=>cases E
end
section
open Classical
section
variable {fn:FuncId}{z0:Option Nat×List Deferred}
theorem LS.inv(h:LS P Q f q l v):(∃x,q=ak f x []/\l= []/\Q x v)\/((∀e d,∃a b c g,nq P q l v e d= .go (G a (b ++ [cB])) c g)/\ ∀e d a b c g,nq P q l v e d= .go (G a (b ++ [cB])) c g->LS P Q f a b c):=by
 cases h with
 | cut h=>grind
 | mk _ h k=>grind
theorem mR (g:Frame->Prop)(d: ∀a,g a->a.defers= []/\(∃i,P.funcs[a.fn]? =S i)/\ ∀c,a.raise c={a with mode:= .panicking c}): ∀ (s:List Frame)(a:Frame)(c:List PanicEntry)(v:World),(∀b∈s,g b)->g a-> ¬LS P Q f {a with mode:= .panicking c} s v:=by
 intro s;induction s with
 | nil=>
  intro a c v _ j h;obtain ⟨k,⟨i,l⟩,_⟩:=d a j;rcases h.inv with ⟨x,e,_⟩ | ⟨h,_⟩
  ·have:=congrArg Frame.mode e;cases this
  ·obtain ⟨p,n,q,r,e⟩:=h v.tape v.drawn;have m:nq P {a with mode:= .panicking c} [] v v.tape v.drawn= .go (G (cB.raise c) []) (aK v v.tape v.drawn):=by simp[nq,G,j2,A0,k,Frame.catches,l]
   rw[m]at e;injection e with e
   injection e with _ e
   grind
 | cons b s t=>
  intro a c v o j h;obtain ⟨k,⟨i,l⟩,_⟩:=d a j;rcases h.inv with ⟨x,e,_⟩ | ⟨_,h⟩
  ·grind
  ·have n:nq P {a with mode:= .panicking c} (b::s) v v.tape v.drawn= .go (G {b with mode:= .panicking c} (s ++ [cB])) (aK v v.tape v.drawn):=by have:=(d b (o b (List.mem_cons_self))).2.2 c;simp[nq,G,j2,A0,k,Frame.catches,l,this]
   grind
theorem yg(d: ∃g,P.funcs[f]? =S g): ¬LS P Q f (cP f y k) [] v:=by
 intro h;obtain ⟨g,d⟩:=d;rcases h.inv with ⟨x,e,_⟩ | ⟨h,_⟩
 ·have:=congrArg Frame.mode e;cases this
 ·obtain ⟨j,l,m,a,e⟩:=h v.tape v.drawn;have i: ∀u,j2 P true (G (cP f y k) [cB]) u=(match (results g y).runT P u #[]with
    | (.ok c b,a)=>m6 (seen P f a) (E2 P true (cP f y k) [cB] none c b)
    | (.halt (.stuck s) b,a)=>m6 (seen P f a) (.ended (.stuck s ((cP f y k).pos P)) b)
    | (.halt _ b,a)=>m6 (seen P f a) (.ended (.stuck "return: the result variables cannot be read" ((cP f y k).pos P)) b)):=λu=>by
   simp only[G,j2,A0,cP,d];grind
  unfold nq at e;rw[List.nil_append,i]at e;split at e
  ·simp[E2,cP,m6,G]at e
  ·simp[m6]at e
  ·simp[m6]at e
theorem oR (d: ∃b,P.funcs[f]? =S b)(x:Array l9)(a:List C1):(ak f x a).defers= []/\(∃b,P.funcs[(ak f x a).fn]? =S b)/\ ∀c,(ak f x a).raise c={ak f x a with mode:= .panicking c}:=⟨R,d,λ_=>rfl⟩
theorem Of (hP:sG P C)(hf: ∃f,P.funcs[fn]? =some f)
  (K: ∀H x y v' w' F',Ext r H->F.le F'->Q x v'->dA H v' w'->FP H v' F'->aB H x y->Co P m I F' (G (aR z0 fn y k) l) w')
  {s:List Frame}(hL:LS P Q fn q s v):
  (∀ {B:aU}{x y:Array Value}{pre:List Item}{J:aq}{w:World},q=ak fn x pre->s= []->Ext r B->F.le J->dA B v w->FP B v J->aB B x y->pre.all (bp P C)=true->Co P m I J (G (aR z0 fn y (pre ++ k)) l) w)/\
  (∀ {B:aU}{b:Frame}{x y:Array Value}{z:Array Oper}{i:Nat}{g:List Nat}{a:List Item}{s0 t0:List Frame}{J:aq}{w:World},s=s0 ++ [ak fn x (.inRegion z (i::g)::a)]->Ext r B->F.le J->dA B v w->FP B v J->FR P C B q b->ze P C B s0 t0->aB B x y->
   (Item.inRegion z (i::g)::a).all (bp P C)=true->Co P m I J (G b (t0 ++ aR z0 fn y (.inRegion z (i::g)::(a ++ k))::l)) w):=by
 induction hL with
 | @cut x0 v hq=>
  refine ⟨λ{B x y pre J w} e _ hE hF hs A hv _=> ?_,λ{B b x y z i g a s0 t0 J w} e=> ?_⟩
  ·have e1:pre= []:=(congrArg Frame.todo e).symm;have M:x=x0:=(congrArg Frame.tmps e).symm;subst e1;subst M;exact K B x y v w J hE hF hq hs A hv
  simp_all
 | @mk q s v b2 a0 E ih=>
  have Cd: ∀ {B:aU}{J:aq}{w n:World},dA B v w->FP B v J->dD J w n->dA B (aK v (λi=>n.tape (n.drawn + i)) 0) n:=λhs A N=>by have:=hs.keep A N;exact ⟨this.size,this.inj,this.low,this.et,this.pos,this.cells,this.num⟩
  have Ih: ∀ {B:aU}{J:aq}(n:World),FP B v J->FP B (aK v (λi=>n.tape (n.drawn + i)) 0) J:=λn h=>⟨h.dc,h.wb,h.num⟩;have ag: ∀ (n:World)(nd:Nat),Ag nd (aK v (λi=>n.tape (n.drawn + i)) 0) n:=λn nd j a9 _=>by show n.tape (n.drawn + (0 + j)) a9=_;simp
  constructor
  ·intro B x y pre J w ea a6 hE hF hs A hv ho;subst ea;subst a6;cases pre with
   | nil=>exact absurd ⟨x,R,R⟩ b2
   | cons it a=>
    have key: ∀n,dD J w n-> ∃Z D O H T L V,nq P (ak fn x (it::a)) [] v (λi=>n.tape (n.drawn + i)) 0= .go Z D O/\j2 P m (G (aR z0 fn y (it::a ++ k)) l) n= .go T L V/\dA H D L/\jf B H (aK v (λi=>n.tape (n.drawn + i)) 0) n D L/\(∀e∈V,jd H D e)/\xd P C H k l fn z0 Z T:=by
     intro n N;rcases wv (z0:=z0) (m:=true) (m':=m) (k:=k) (l:=l) (fn:=fn) hP (Cd hs A N) hv ho with ⟨o,D,O,e⟩ | ⟨ch,D,O,e⟩ | ⟨x',t',D,O,e⟩ | ⟨Z,D,O,e1,M⟩
     ·obtain ⟨a1,s1,v2,b3,M⟩:=a0 (λi=>n.tape (n.drawn + i)) 0;unfold nq at M;rw[List.nil_append,e]at M;cases M
     ·exact absurd (E _ _ _ [] _ _ e) (mR (λq=>q=ak fn x (it::a)) (λq h=>by subst h;exact oR hf _ _) [] (ak fn x (it::a)) ch D (λ_ h=>by cases h) R)
     ·exact absurd (E _ _ _ [] _ _ e) (yg hf)
     ·obtain ⟨H,T,L,V,k1,W,Y,k4,k5⟩:=M D.drawn YP (ag n _);exact ⟨Z,D,O,H,T,L,V,e1,k1,W,Y,k4,k5⟩
    refine .step R (λn N=> ?_) (λn g' w' b4 N e=> ?_)
    ·obtain ⟨Z,D,O,H,T,L,V,k0,k1,W,Y,k4,k5⟩:=key n N;refine ⟨T,L,V,k1,lM (Ih n A) (Cd hs A N) W Y k4,?_⟩;cases k5 with
     | same _ _=>exact ⟨R,R⟩
     | left=>exact absurd (E _ _ _ [] _ _ k0) (yg hf)
     | call _ _ _=>exact ⟨R,R⟩
    ·obtain ⟨Z,D,O,H,T,L,V,k0,k1,W,Y,k4,k5⟩:=key n N;rw[k1]at e;injection e with e1 M
     subst e1;subst M;have a2:=hE.trans Y.ext;have a3:=aq.le_trans hF (J.nI n.heap.size L.heap.size);have a4:=(Ih n A).tT (Cd hs A N) W Y;cases k5 with
     | same h1 h2=>exact (ih _ _ _ [] _ _ k0).1 R R a2 a3 W a4 h1 h2
     | left=>exact absurd (E _ _ _ [] _ _ k0) (yg hf)
     | @call a1 b1 x1 y1 z i g a7 h1 h2 h3=>exact (ih _ _ _ [ak fn x1 (.inRegion z (i::g)::a7)] _ _ k0).2 (s0:= []) (t0:= []) R a2 a3 W a4 h1 .nil h2 h3
  ·intro B b x y z i g a s0 t0 J w a6 hE hF hs A h1 h2 hv ho;subst a6;have X: ∀ (a9:List Frame),(a9 ++ [ak fn x (.inRegion z (i::g)::a)]) ++ [cB]=a9 ++ (ak fn x (.inRegion z (i::g)::a):: [cB]):=YR;have a5: ∀tp d,nq P q (s0 ++ [ak fn x (.inRegion z (i::g)::a)]) v tp d=j2 P true (G q (s0 ++ (ak fn x (.inRegion z (i::g)::a):: [cB]))) (aK v tp d):=λtp d=>by unfold nq;rw[X]
   have b0: ∀c∈s0 ++ [ak fn x (.inRegion z (i::g)::a)],(∃b,FR P C B c b)\/c=ak fn x (.inRegion z (i::g)::a):=λc hc=>by
    rcases List.mem_append.1 hc with h | h
    ·exact .inl (sT h2 c h)
    ·exact .inr (by simpa using h)
   have key: ∀n,dD J w n-> ∃Z D O H T L V,nq P q (s0 ++ [ak fn x (.inRegion z (i::g)::a)]) v (λi=>n.tape (n.drawn + i)) 0= .go Z D O/\j2 P m (G b (t0 ++ aR z0 fn y (.inRegion z (i::g)::(a ++ k))::l)) n= .go T L V/\dA H D L/\jf B H (aK v (λi=>n.tape (n.drawn + i)) 0) n D L/\(∀e∈V,jd H D e)/\Out P C H (ak fn x (.inRegion z (i::g)::a):: [cB]) (aR z0 fn y (.inRegion z (i::g)::(a ++ k))::l) Z T:=by
    intro n N;rcases tE (m:=true) (m':=m) (k:=ak fn x (.inRegion z (i::g)::a):: [cB]) (l:=aR z0 fn y (.inRegion z (i::g)::(a ++ k))::l) hP (Cd hs A N) h1 h2 ⟨_,_,rfl⟩ ⟨_,_,rfl⟩with ⟨o,D,O,e⟩ | ⟨ch,D,O,e⟩ | ⟨Z,D,O,e1,⟨nd,n1,n2,_⟩,M⟩
    ·obtain ⟨a1,s1,v2,b3,M⟩:=a0 (λi=>n.tape (n.drawn + i)) 0;rw[a5,e]at M;cases M
    ·exact absurd (E _ _ _ (s0 ++ [ak fn x (.inRegion z (i::g)::a)]) _ _ (by rw[a5,X];exact e)) (mR (λc=>(∃b,FR P C B c b)\/c=ak fn x (.inRegion z (i::g)::a)) (λc hc=>by
      rcases hc with ⟨b,hb⟩ | rfl
      ·exact DS hb
      ·exact oR hf _ _) _ q ch D b0 (.inl ⟨b,h1⟩))
    ·obtain ⟨H,T,L,V,k1,W,Y,k4,k5⟩:=M nd YP (ag n _);exact ⟨Z,D,O,H,T,L,V,by rw[a5];exact e1,k1,W,Y,k4,k5⟩
   have b6:b.mode=b.mode:=rfl;refine .step R (λn N=> ?_) (λn g' w' b4 N e=> ?_)
   ·obtain ⟨Z,D,O,H,T,L,V,k0,k1,W,Y,k4,k5⟩:=key n N;refine ⟨T,L,V,k1,lM (Ih n A) (Cd hs A N) W Y k4,?_⟩;cases k5 with
    | inside _ _=>exact ⟨R,R⟩
    | back _ _ _=>exact ⟨R,R⟩
   ·obtain ⟨Z,D,O,H,T,L,V,k0,k1,W,Y,k4,k5⟩:=key n N;rw[k1]at e;injection e with e1 M
    subst e1;subst M;have a2:=hE.trans Y.ext;have a3:=aq.le_trans hF (J.nI n.heap.size L.heap.size);have a4:=(Ih n A).tT (Cd hs A N) W Y;have a8:=aB.mono Y.ext hv;cases k5 with
    | @inside a1 b1 s1 t1 f1 f2=>exact (ih _ _ _ (s1 ++ [ak fn x (.inRegion z (i::g)::a)]) _ _ (by rw[k0,X])).2 R a2 a3 W a4 f1 f2 a8 ho
    | @back c d t u p a9 e1 M b5=>
     cases e1;cases M;rw[iH]at k0;rw[ks];refine (ih _ _ _ [] _ _ k0).1 (pre:= .inRegion z g::a) R R a2 a3 W a4 ?_ (by assumption);cases (z[i]?).bind (·.dst)with
     | none=>exact a8
     | some d=>exact a8.set b5
end
end
theorem Kz (o:sG P C)(p: ∃A,P.funcs[f]? =S A){x:Array l9}(B:ct P C H=true)
  (D: ∀x v b d,Q x v->Q x (aK v b d))(i: ∀x v b d,Q x (aK v b d)->Q x v)(q:dA r v w)(E:FP r v F)(s:aB r x y)
  (J: ∀b,H.wp P (λe a c=>e= .normal/\a.defers= []/\Q a.tmps c) ⟨x,[]⟩ (aK v b 0))
  (K: ∀g x y j c n,Ext r g->F.le n->Q x j->dA g j c->FP g j n->aB g x y->Co P m I n (G (aR h f y k) l) c):
  Co P m I F (G (aR h f y (.code H::k)) l) w:=by
 have t: [F6 H].all (bp P C)=true:=by simp[bp,B]
 have L:LS P Q f (ak f x [.code H]) [] v:=by refine pW o D i ⟨iN r,q.self,.run p s.self t,.nil⟩ λb=> ?_;obtain ⟨e,M,c,⟨rfl,u,z⟩,O⟩:=J b (ak f x []) [] [cB];obtain ⟨N,T⟩:=O;obtain ⟨V,W⟩:=M;dsimp only at u z;subst u;exact ⟨N,V,c,T,z⟩
 exact (Of o p K L).1 (pre:= [.code H]) R R (.refl r) F.le_refl q E s t
section
open Classical
section
variable {P:Program}{cs:Nat->Bool}{fn:FuncId}{z0:Option Nat×List Deferred}
theorem Cd{a:World}(c:dA r v w)(b:FP r v F)(d:dD F w a):dA r (aK v (λi=>a.tape (a.drawn + i)) 0) a:=by have:=c.keep b d;exact ⟨this.size,this.inj,this.low,this.et,this.pos,this.cells,this.num⟩
theorem Ih(a:World)(h:FP r v F):FP r (aK v (λi=>a.tape (a.drawn + i)) 0) F:=⟨h.dc,h.wb,h.num⟩
theorem Js (v a:World)(b:Nat):Ag b (aK v (λi=>a.tape (a.drawn + i)) 0) a:=λj q _=>by show a.tape (a.drawn + (0 + j)) q=_;simp
theorem Oe (hP:sG P C){cf df:Frame}{r0:aU}{F0:aq}(a2:cf.defers= []/\(∃a3,P.funcs[cf.fn]? =S a3)/\ ∀V,cf.raise V={cf with mode:= .panicking V})
  (K: ∀r p E v w F,Ext r0 r->F0.le F->LS P Q f (cf.finish p) [] v->dA r v w->FP r v F->VR r p E->Co P m I F (G (df.finish E) l) w)
  {s:List Frame}(hL:LS P Q f q s v):
  ∀ {r:aU}{b:Frame}{s0 t0:List Frame}{F:aq}{w:World},s=s0 ++ [cf]->Ext r0 r->F0.le F->dA r v w->FP r v F->FR P C r q b->ze P C r s0 t0->Co P m I F (G b (t0 ++ df::l)) w:=by
 induction hL with
 | @cut x0 v hq=>simp
 | @mk q s v a4 y z ih=>
  intro r b s0 t0 F w a0 hE hF hs g h1 h2;subst a0;have j: ∀ (E:List Frame),(E ++ [cf]) ++ [cB]=E ++ (cf:: [cB]):=YR;have M: ∀tp d,nq P q (s0 ++ [cf]) v tp d=j2 P true (G q (s0 ++ (cf:: [cB]))) (aK v tp d):=λtp d=>by unfold nq;rw[j]
  have N: ∀c∈s0 ++ [cf],(∃b,FR P C r c b)\/c=cf:=λc hc=>by
   rcases List.mem_append.1 hc with h | h
   ·exact .inl (sT h2 c h)
   grind
  have key: ∀a,dD F w a-> ∃O n H A J x L,nq P q (s0 ++ [cf]) v (λi=>a.tape (a.drawn + i)) 0= .go O n H/\j2 P m (G b (t0 ++ df::l)) a= .go J x L/\dA A n x/\jf r A (aK v (λi=>a.tape (a.drawn + i)) 0) a n x/\(∀e∈L,jd A n e)/\Out P C A (cf:: [cB]) (df::l) O J:=by
   intro a B;rcases tE (m:=true) (m':=m) (k:=cf:: [cB]) (l:=df::l) hP (Cd hs g B) h1 h2 ⟨_,_,rfl⟩ ⟨_,_,rfl⟩with ⟨o,n,H,e⟩ | ⟨V,n,H,e⟩ | ⟨O,n,H,W,⟨nd,n1,n2,_⟩,D⟩
   ·obtain ⟨a1,s1,v2,a5,D⟩:=y (λi=>a.tape (a.drawn + i)) 0;grind
   ·exact absurd (z _ _ _ (s0 ++ [cf]) _ _ (by rw[M,j];exact e)) (mR (λc=>(∃b,FR P C r c b)\/c=cf) (λc hc=>by
     rcases hc with ⟨b,hb⟩ | rfl
     ·exact DS hb
     omega) _ q V n N (.inl ⟨b,h1⟩))
   ·obtain ⟨A,J,x,L,X,Y,T,k4,Z⟩:=D nd YP (Js v a _);grind
  refine .step R (λa B=> ?_) (λa g' w' a6 B e=> ?_)
  ·obtain ⟨O,n,H,A,J,x,L,k0,X,Y,T,k4,Z⟩:=key a B;refine ⟨J,x,L,X,lM (Ih a g) (Cd hs g B) Y T k4,?_⟩;cases Z with
   | inside _ _=>exact ⟨R,R⟩
   | back W D _=>cases D;exact ⟨R,R⟩
  ·obtain ⟨O,n,H,A,J,x,L,k0,X,Y,T,k4,Z⟩:=key a B;rw[X]at e;injection e with W D
   subst W;subst D;have a7:=hE.trans T.ext;have a8:=aq.le_trans hF (F.nI a.heap.size x.heap.size);have a9:=(Ih a g).tT (Cd hs g B) Y T;cases Z with
   | @inside a1 b1 s1 t1 f1 f2=>grind
   | @back c d t u p E W D b0=>grind
theorem pI(b:p[i]? =some V)(a:l9):
  (ak f y (.inRegion p (i::z)::k)).finish a=ak f (match V.dst with | some d=>y.setIfInBounds d a | none=>y) (.inRegion p z::k):=by
 rw[iH,b];rfl
theorem uX(b:p[i]? =some V)(a:l9):
  (aR h f y (.inRegion p (i::z)::k)).finish a=aR h f (match V.dst with | some d=>y.setIfInBounds d a | none=>y) (.inRegion p z::k):=by
 rw[ks,b];rfl
inductive gV (P:o8)(cs:Nat->Bool)(ey ops:Array Oper):List Nat->List Nat->Prop
 | nil:gV P cs ey ops [] []
 | cons {j i:Nat} {L1 L:List Nat}:(∃o,ey[j]? =S o/\ops[i]? =S o/\jM P cs o.op=true/\o.guard=none)->gV P cs ey ops L1 L->gV P cs ey ops (j::L1) (i::L)
theorem zs (hP:sG P cs)(hf: ∃f,P.funcs[fn]? =some f){r0:aU}{F0:aq}{J:Array Oper}{tail rest:List Nat}
  (K: ∀r x y v w F,Ext r0 r->F0.le F->LS P Q fn (ak fn x [.inRegion p tail]) [] v->dA r v w->FP r v F->aB r x y->Co P m I F (G (aR z0 fn y (.inRegion J rest::k)) l) w):
  ∀ (X L:List Nat),gV P cs p J X L->
   ∀ {r:aU}{x y:Array Value}{v:World}{F:aq}{w:World},LS P Q fn (ak fn x [.inRegion p (X ++ tail)]) [] v->Ext r0 r->F0.le F->dA r v w->FP r v F->aB r x y->
   Co P m I F (G (aR z0 fn y (.inRegion J (L ++ rest)::k)) l) w:=by
 intro X L h;induction h with
 | nil=>grind
 | @cons j i X L ho _ ih=>
  intro r x y v F w hL hE hF hs M hv;obtain ⟨o,Y,a8,a3,b4⟩:=ho;rcases hL.inv with ⟨x',e,_⟩ | ⟨a4,H⟩
  ·have:=congrArg Frame.todo e;cases this
  have b5: ∀f,j7 o f=true:=λf=>by unfold j7;rw[b4]
  have st: ∀ (y0:Option Nat×List Deferred)(mm:Bool)(z:Array Value)(C:List Frame)(u:World)(t:List Item)(g:Array Oper)(T:Nat)(c:List Nat),g[T]? =some o->j2 P mm (G (aR y0 fn z (.inRegion g (T::c)::t)) C) u=stepG.apply P true (aR y0 fn z (.inRegion g (T::c)::t)) C none (m4 (aR y0 fn z (.inRegion g (T::c)::t)).eval o) u:=λy0 mm z C u t g T c b6=>zU b6 (b5 _) a3;have a5: ∀ (mm:Bool)(z:Array Value)(C:List Frame)(u:World)(t:List Item)(g:Array Oper)(T:Nat)(c:List Nat),g[T]? =some o->j2 P mm (G (ak fn z (.inRegion g (T::c)::t)) C) u=stepG.apply P true (ak fn z (.inRegion g (T::c)::t)) C none (m4 (ak fn z (.inRegion g (T::c)::t)).eval o) u:=st (none,[]);let cf:=ak fn x [.inRegion p (j::(X ++ tail))];let df:=aR z0 fn y (.inRegion J (i::(L ++ rest))::k);have key: ∀n,dD F w n-> ∃V A es B N W fs,nq P cf [] v (λi=>n.tape (n.drawn + i)) 0= .go V A es/\j2 P m (G df l) n= .go N W fs/\dA B A W/\jf r B (aK v (λi=>n.tape (n.drawn + i)) 0) n A W/\(∀e∈fs,jd B A e)/\
    ((∃s q,Ext r B/\VR B s q/\V=G (cf.finish s) [cB]/\N=G (df.finish q) l)\/ ∃f s q,Ext r B/\mJ P cs f=true/\aB B s q/\V=G (Frame.enter P f s .normal) (cf:: [cB])/\N=G (Frame.enter P f q .normal) (df::l)):=by
   intro n hk;have kk:=qw (P:=P) (cs:=cs) (Cd hs M hk) (a:=cf) (b:=df) (C:= [cB]) (D:=l) R R R (by simp[cf,ak]) (by simp[df,aR])
    (jR hP.ok (ia (fn:=fn) (fn':=fn) (t:= [.inRegion p (j::(X ++ tail))]) (t':= [.inRegion p (j::(X ++ tail))]) (d:= []) (d':= []) (m:= .run) (m':= .run) (k:= .normal) (k':= .normal) hv.self) o a3)
    (jR hP.ok (ia (fn:=fn) (fn':=fn) (t:= [.inRegion p (j::(X ++ tail))]) (t':= .inRegion J (i::(L ++ rest))::k) (d:= []) (d':= []) (m:= .run) (m':= .run) (k:= .normal) (k':= .normal) hv) o a3)
    (λB V N=>(∃s q,Ext r B/\VR B s q/\V=G (cf.finish s) [cB]/\N=G (df.finish q) l)\/ ∃f s q,Ext r B/\mJ P cs f=true/\aB B s q/\V=G (Frame.enter P f s .normal) (cf:: [cB])/\N=G (Frame.enter P f q .normal) (df::l))
    (λB s q hx E=> .inl ⟨s,q,hx,E,R,R⟩) (λB f s q hx Z E=> .inr ⟨f,s,q,hx,Z,E,R,R⟩)
   rcases kk with ⟨o',A,es,e⟩ | ⟨ch,A,es,e⟩ | ⟨V,A,es,e1,_,e2⟩
   ·obtain ⟨a1,s1,v2,b8,e2⟩:=a4 (λi=>n.tape (n.drawn + i)) 0;unfold nq at e2;rw[List.nil_append,List.cons_append,a5 _ _ _ _ _ _ _ _ Y]at e2;exact absurd (e.symm.trans e2) YR
   ·refine absurd (H (λi=>n.tape (n.drawn + i)) 0 _ [] A es ?_) (mR (λa=>a=cf) (λa h=>by subst h;exact oR hf _ _) [] cf ch A (λ_ h=>by cases h) R);unfold nq;rw[List.nil_append,List.cons_append,a5 _ _ _ _ _ _ _ _ Y];exact e
   ·obtain ⟨B,N,W,fs,k1,k2,k3,k4,k5⟩:=e2 A.drawn YP (Js v n _);refine ⟨V,A,es,B,N,W,fs,?_,?_,k2,k3,k4,k5⟩
    ·unfold nq;rw[List.nil_append];exact (a5 _ _ _ _ _ _ _ _ Y).trans e1
    ·exact (st z0 _ _ _ _ _ _ _ _ a8).trans k1
  refine .step R (λn hk=> ?_) (λn g' w' b9 hk e=> ?_)
  ·obtain ⟨V,A,es,B,N,W,fs,k0,k1,k2,k3,k4,k5⟩:=key n hk;refine ⟨N,W,fs,k1,lM (Ih n M) (Cd hs M hk) k2 k3 k4,?_⟩;rcases k5 with ⟨_,_,_,_,_,rfl⟩ | ⟨_,_,_,_,_,_,_,rfl⟩<;>exact ⟨R,R⟩
  ·obtain ⟨V,A,es,B,N,W,fs,k0,k1,k2,k3,k4,k5⟩:=key n hk;rw[List.cons_append]at e;change j2 P m (G df l) n=_ at e;rw[k1]at e;injection e with e1 e2
   subst e1;subst e2;have a9:=hE.trans k3.ext;have b0:=aq.le_trans hF (F.nI n.heap.size W.heap.size);have Z:=(Ih n M).tT (Cd hs M hk) k2 k3;have b1: ∀ (r1:aU)(s q:Value)(A n:World)(F1:aq),Ext r r1->Ext r0 r1->F0.le F1->LS P Q fn (cf.finish s) [] A->dA r1 A n->FP r1 A F1->VR r1 s q->Co P m I F1 (G (df.finish q) l) n:=by
    intro r1 s q A n F1 b7 a0 a6 a2 a7 O E;rw[show df.finish q=aR z0 fn (match o.dst with | some d=>y.setIfInBounds d q | none=>y) (.inRegion J (L ++ rest)::k)from uX a8 q];rw[show cf.finish s=ak fn (match o.dst with | some d=>x.setIfInBounds d s | none=>x) [.inRegion p (X ++ tail)]from pI Y s]at a2;refine ih a2 a0 a6 a7 O ?_;have b2:=aB.mono b7 hv;cases o.dst with
    | none=>exact b2
    | some d=>exact b2.set E
   rcases k5 with ⟨s,q,hx,E,rfl,rfl⟩ | ⟨f,s,q,hx,he,E,rfl,rfl⟩
   ·exact b1 B s q _ _ _ hx a9 b0 (H _ _ _ [] _ _ k0) k2 Z E
   ·exact Oe hP (r0:=B) (F0:=F.add n.heap.size W.heap.size) (cf:=cf) (df:=df) (oR hf _ _) (λr1 p1 q1 A n F1 a0 a6 a2 a7 O b3=>b1 r1 p1 q1 A n F1 (hx.trans a0) (a9.trans a0) (aq.le_trans b0 a6) a2 a7 O b3)
     (H _ _ _ [cf] _ _ k0) (s0:= []) (t0:= []) R (.refl _) (aq.le_refl _) k2 Z (FR.enter hP he E) .nil
end
end
theorem Er {d:Region.Mode}{b:Array Oper}(f:p.size=b.size)(g: ∀i:Nat,(p[i]?).map (·.after)=(b[i]?).map (·.after)): ∀ (a t:Nat)(listed:Array Bool)(c:List Nat),q9 d p a t listed c=q9 d b a t listed c:=by
 have j: ∀listed:Array Bool,(List.range p.size).filter (λi=> !listed.getD i true && ((p[i]?).map (·.after.all λe=> !v9 d e || listed.getD e.on false)).getD false)=(List.range b.size).filter (λi=> !listed.getD i true && ((b[i]?).map (·.after.all λe=> !v9 d e || listed.getD e.on false)).getD false):=by
  intro listed;rw[f];congr 1
  funext i;have h:=g i;cases k:p[i]? with
  | none=>grind
  | some l=>grind
 intro a;induction a with
 | zero=>intro t listed c;rfl
 | succ a m=>intro t listed c;simp only[q9];rw[j];grind
theorem Ep {md:Region.Mode}(T:p[i]? =some V)(l: ∀a o,p[a]? =some o-> ∀e∈o.after,Region.binds md e=true->e.on<a)(r: ∀j,j<p.size->j≠i-> ∃e∈V.after,e.on=j/\Region.binds md e=true):
  ∀ (c t:Nat)(listed:Array Bool),listed.size=p.size->listed.countP (λb=> !b)<=c->listed.getD i true=false-> ∃L,Region.linearise.go md p c t listed []=L ++ [i]/\ ∀a∈L,a<p.size/\a≠i:=by
 have A:i<p.size:=YS;have B: ∀listed:Array Bool,listed.size=p.size->listed.getD i true=false->Region.ready md p listed≠ []:=by
  intro listed g m hr;have: ∀a,a<p.size->listed.getD a false=true:=by
   intro a;induction a using Nat.strongRecOn with
   | _ a C=>
    intro y;cases M:listed.getD a false with
    | true=>rfl
    | false=>
     have d:a<listed.size:=YP;have D:listed.getD a true=false:=by rw[Array.getD_eq_getD_getElem?,Array.getElem?_eq_getElem d]at M ⊢;exact M
     have hm:=D2.2 ⟨D,p[a],Array.getElem?_eq_getElem y,λe E W=>by have F:=l a _ (Array.getElem?_eq_getElem y) e E W;exact C e.on F YP⟩;grind
  have z:=this i A;have d:i<listed.size:=YP;rw[Array.getD_eq_getD_getElem?,Array.getElem?_eq_getElem d]at m z;simp at m z;rw[m]at z;cases z
 intro c;induction c with
 | zero=>intro t listed g X m;have d:i<listed.size:=YP;have Y:listed.countP (λb=> !b)=0:=YP;have:=Array.countP_eq_zero.1 Y listed[i] (Array.getElem_mem d);simp_all
 | succ c C=>
  intro t listed g X m;simp only[Region.linearise.go];change ∃L,(match (Region.ready md p listed)[t % (Region.ready md p listed).length]? with
   | some a=>Region.linearise.go md p c (t / (Region.ready md p listed).length) (listed.setIfInBounds a true) [a]
   | none=> [].reverse)=L ++ [i]/\_
  have Z:=B listed g m;have s:=List.length_pos_iff.2 Z;have d:t % (Region.ready md p listed).length<(Region.ready md p listed).length:=Nat.mod_lt _ s;rw[List.getElem?_eq_getElem d];generalize y:(Region.ready md p listed)[t % (Region.ready md p listed).length]=a;have G:a∈Region.ready md p listed:=by rw[<-y];exact List.getElem_mem d
  obtain ⟨N,o,O,hd⟩:=D2.1 G;have a0:a<p.size:=YS;have k:a<listed.size:=YP;have u:listed[a]=false:=by rw[Array.getD_eq_getD_getElem?,Array.getElem?_eq_getElem k]at N;simpa using N
  have P:(listed.setIfInBounds a true).countP (λb=> !b) + 1=listed.countP (λb=> !b):=by
   have v:listed.setIfInBounds a true=listed.set a true:=by simp[Array.setIfInBounds,k]
   rw[v,Array.countP_set];simp[u];have:0<listed.countP (λb=> !b):=by rw[Array.countP_pos_iff];exact ⟨listed[a],Array.getElem_mem k,by simp[u]⟩
   omega
  dsimp only;rw[linearise_go_acc,List.reverse_singleton];by_cases w:a=i
  ·subst w;rw[T]at O;cases O;refine ⟨[],?_,λ_ h=>by cases h⟩;have hz:Region.ready md p (listed.setIfInBounds a true)= []:=by
    apply List.eq_nil_iff_forall_not_mem.2;intro j Q;obtain ⟨q,o3,a1,_⟩:=D2.1 Q;have H:j<p.size:=YS;by_cases n:j=a
    ·subst n;rw[Array.getD_eq_getD_getElem?,Array.getElem?_setIfInBounds_self_of_lt k]at q;cases q
    ·obtain ⟨e,he,I,J⟩:=r j H n;have x:=hd e he J;rw[I]at x;rw[getD_set_ne _ (λh=>n h.symm)]at q;have K:j<listed.size:=YP;rw[Array.getD_eq_getD_getElem?,Array.getElem?_eq_getElem K]at q x;simp at q x;rw[q]at x;cases x
   have:Region.linearise.go md p c (t / (Region.ready md p listed).length) (listed.setIfInBounds a true) []= []:=by
    cases c with
    | zero=>rfl
    | succ f=>
     simp only[Region.linearise.go];change (match (Region.ready md p (listed.setIfInBounds a true))[(t / (Region.ready md p listed).length) % (Region.ready md p (listed.setIfInBounds a true)).length]? with
      | some i'=>Region.linearise.go md p f _ _ [i']
      | none=> [].reverse)= []
     rw[hz];rfl
   grind
  ·obtain ⟨L,hL,a2⟩:=C (t / (Region.ready md p listed).length) (listed.setIfInBounds a true) (by simpa using g) YP (by rw[getD_set_ne _ w];exact m);rw[hL];refine ⟨a::L,R,λj Q=> ?_⟩;grind
section
open Classical
section
variable {P:Program}{E:Env}{m:Bool}{Sp:ca->Tr->bC->List Ak->aq->Goroutine->World->Prop}{Lg:bC}{End:aq->Goroutine->World->Nat->Prop}{d:Nat}{r:ca}{lg:List bC}{ph:Ph}{F:aq}{g:Goroutine}{w:World}
structure cH where
 cl:Nat->Nat->Option l9
 bk:Nat->Option E8
 sz:Nat->Option Nat
def Cells (C:Nat->Nat->Prop)(a:cH)(w:World):Prop:= ∀b j,C b j-> ∃c e f u,w.heap[b]? =S (.cells c e f)/\c[j]? =S u/\ ¬ (f.1<=j/\j<f.2)/\(∀d,a.cl b j=S d->d=u)/\ ∀n,a.sz b=S n->c.size=n
variable {u:cH}
theorem Cells.sub {d:Nat->Nat->Prop}{a:cH}(h:Cells B u w)(i: ∀b j,d b j->B b j)(l: ∀b j g,d b j->a.cl b j=S g->u.cl b j=S g)(m: ∀b n,a.sz b=S n->u.sz b=S n):Cells d a w:=λb j k=>by obtain ⟨c,e,f,g,o,p,q,r,s⟩:=h b j (i b j k);grind
def oX (F:aq)(a:cH)(w:World):Prop:= ∀b c,a.bk b=S c->F.rd b/\ ¬F.wr b/\w.heap[b]? =S c
def aq.nc (F:aq):aq:=⟨F.rd,F.wr,λ_ _=>False⟩
def aq.wc (F:aq)(C:Nat->Nat->Prop):aq:=⟨F.rd,F.wr,C⟩
theorem aq.le.uK {H:aq}(h:F.le H):H.cl=F.cl:=funext λb=>funext λi=>propext (h.cl b i)
theorem aq.le.wc {F H:aq}{C:Nat->Nat->Prop}(h:F.le H):(F.wc C).le (H.wc C):=⟨h.rd,h.wr,λ_ _=>Iff.rfl⟩
theorem dD.nc{C:Nat->Nat->Prop}(h:dD (F.wc C) w v)(a: ∀b i,¬F.cl b i):dD F w v:=⟨h.same,h.size,h.kind,h.tape,λb i _ _ _ c=>absurd c (a b i)⟩
theorem oH.wc {F:aq}{C:Nat->Nat->Prop}{w a:World}{d:Array p8}(h:oH F w a d)(g: ∀b i,¬F.cl b i):oH (F.wc C) w a d where
 same b hb h1 _:=h.same b hb h1 (g b)
 cell b c e f h1 h2:=by obtain ⟨k,l,m,n⟩:=h.cell b c e f h1 h2;grind
 size:=h.size
 kind:=h.kind
 tape:=h.tape
 os:=h.os
 output:=h.output
 ev e j:=by
  cases h.ev e j with
  | extern f=>exact .extern f
  | room=>exact .room
  | obj h=>exact .obj h
  | read h=>exact .read h
  | write h=>exact .write h
  | put h=>exact absurd h (g _ _)
  | yY h=>exact .yY h
theorem Cells.keep {C:Nat->Nat->Prop}{val:cH}{w1:World}(h:Cells C val w)(k:dD (F.wc C) w w1):Cells C val w1:=λb j a=>by obtain ⟨c,e,f,u,d,g,i,l,m⟩:=h b j a;obtain ⟨n,o,p,q⟩:=k.cell b j c e f a d;grind
theorem Cells.did {C:Nat->Nat->Prop}{val:cH}{es:Array p8}(h:Cells C val w)(k:oH F w v es)(l: ∀b i,¬F.cl b i)(d: ∀b i,C b i-> ¬F.wr b):Cells C val v:=λb j a=>by obtain ⟨c,e,f,u,g,m,n,o,p⟩:=h b j a;obtain ⟨q,r,s,t⟩:=k.cell b c e f (d b j a) g;grind
theorem oX.keep {val:cH}{w1:World}(h:oX F val w)(k:dD F w w1):oX F val w1:=λb ob c=>by obtain ⟨a,d,e⟩:=h b ob c;exact ⟨a,d,(k.same b a).trans e⟩
theorem Lx {a:Type}{x:Array a}{o:a}(h:x[i]? =S o):i<x.size:=YS
theorem oX.did {val:cH}{es:Array p8}(h:oX F val w)(k:oH F w v es)(e:F.ok):oX (F.add w.heap.size v.heap.size) val v:=λb f g=>by obtain ⟨a,c,d⟩:=h b f g;have j:=Lx d;exact ⟨.inl a,λl=>l.elim c λh=>YP,(k.same b j c λi m=>e.cl b i m a).trans d⟩
theorem aa.LD {C:Nat->Nat->Prop}{val:cH}(o: ¬M.late)(x: ∀F g w,(∀b i,¬F.cl b i)->FG E (F.wc C) w->Cells C val w->oX (F.wc C) val w->I F g w->aa P E m Sp Lg End d r lg M (F.wc C) g w):
  ∀ {F:aq}{g:Goroutine}{w:World},Co P m I F g w->(∀b i,¬F.cl b i)->FG E (F.wc C) w->Cells C val w->oX (F.wc C) val w->aa P E m Sp Lg End d r lg M (F.wc C) g w:=by
 intro F g w h;induction h with
 | stop h=>intro a c p q;exact x _ _ _ a c p q (h _ (.refl _ _))
 | @step F g w y u G z=>
  intro a c p q;refine aa.step (λf=>match j2 P m g f with | .go _ n _=>(F.wc C).add f.heap.size n.heap.size | _=> .none) y o (λf k=> ?_) (λf J n s k e=> ?_)
  ·obtain ⟨J,n,s,j,l,v⟩:=u f (k.keep.nc a);refine ⟨J,n,s,j,l.wc a,v,?_,?_⟩
   ·rw[j];exact aq.dG _
   ·rw[j];exact ((c.keep k).did (l.wc a)).ok
  ·rw[e];obtain ⟨H,K,A,j,l,v⟩:=u f (k.keep.nc a);rw[e]at j;cases j;have t:=(c.keep k).did (l.wc a);refine z f J n s (k.keep.nc a) e a t ?_ ((q.keep k.keep).did (l.wc a) c.ok);exact (p.keep k.keep).did l a λb i B D=>c.ok.cl b i B (c.ok.wr b D)
structure At (E:Env)(ρ:aU)(v:World)(F:aq)(val:cH)(w:World):Prop where
 bQ:dA ρ v w
 fp:FP ρ v F
 fg:FG E F w
 cells:Cells F.cl val w
 held:oX F val w
theorem At.rely {a:aU}{b:World}(h:At E a v F u w)(k:RK E F w b):At E a v F u b:=⟨h.bQ.keep h.fp k.keep,h.fp,h.fg.keep k,h.cells.keep (F:=F) (C:=F.cl) k.keep,h.held.keep k.keep⟩
variable {cs:Nat->Bool}{Q:Array Value->World->Prop}{fn:FuncId}{ρ:aU}{val:cH}{k:List Item}{l:List Frame}{x:Array Value}
def CQ (h:Option Nat×List x7)(P:o8)(E:Env)(m:Bool)(Sp:ca->Tr->bC->List Ak->aq->j0->World->Prop)(Lg:bC)(End:aq->j0->World->Nat->Prop)(d:Nat)(r:ca)(lg:List bC)(i:Ph)(Q:Array l9->World->Prop)(j:r4)(n:aU)(F:aq)(val:cH)(k:List C1)(l:List Frame):Prop:=
 ∀a c e f g b,Ext n a->F.le b->Q c f->At E a f b val g->aB a c e->aa P E m Sp Lg End d r lg i b (G (aR h j e k) l) g
def GN (P:o8)(E:Env)(m:Bool)(j:ca->Tr->bC->List Ak->aq->j0->World->Prop)(n:bC)(b:aq->j0->World->Nat->Prop)(d:Nat)(r:ca)(o:List bC)(p:Ph)(Q:Array l9->World->Prop)(q:r4)(s:aU)(F:aq)(c:cH)(k:List C1)(l:List Frame):Prop:=
 ∀a f g h i e,Ext s a->F.le e->Q f h->At E a h e c i->aB a f g->aa P E m j n b d r o p e (G (ak q g k) l) i
def rj (f:Option Nat×List x7)(Q:Array l9->World->Prop)(h:r4)(i:aU)(F:aq)(k:List C1)(l:List Frame)(c:aq)(g:j0)(w:World):Prop:=
 ∃a d e b,Ext i a/\F.nc.le c/\Q d b/\dA a b w/\FP a b c/\aB a d e/\g=G (aR f h e k) l
variable {z0:Option Nat×List Deferred}
theorem rj.co {b:aq}{a:aU}{c:Array l9}{v':World}(e:Ext ρ a)(g:F.nc.le b)(i:Q y v')(j:dA a v' w)(d:FP a v' b)(n:aB a y c):Co P m (rj h Q f ρ F k l) b (G (aR h f c k) l) w:=
 .stop λ_ o=>⟨a,y,c,v',e,g,i,j.keep d o,d,n,R⟩
theorem aa.qb (b: ¬M.late)(a:At E ρ v F val w)(h:Co P m (rj z0 Q f ρ F k l) F.nc g w)(K:CQ z0 P E m Sp Lg End d r lg M Q f ρ F val k l):aa P E m Sp Lg End d r lg M F g w:=by
 have:=aa.LD (Sp:=Sp) (Lg:=Lg) (End:=End) (d:=d) (r:=r) (lg:=lg) (C:=F.cl) (val:=val) b (λj J n D o p q c=> ?_) h (λ_ _ h=>h) a.fg a.cells a.held;·exact this
 ·obtain ⟨e,s,t,u,x,y,z,A,i,B,rfl⟩:=c;exact K e s t u n (j.wc F.cl) x (y.wc (C:=F.cl)) z ⟨A,⟨i.dc,i.wb,i.num⟩,o,p,q⟩ B
theorem FP.nc (h:FP ρ v F):FP ρ v F.nc:=⟨h.dc,h.wb,h.num⟩
theorem aa.lY (o:sG P C)(p: ∃f,P.funcs[fn]? =S f)(g: ¬M.late)(q:ct P C H=true)(s: ∀x v d i,Q x v->Q x (aK v d i))(h: ∀x v d i,Q x (aK v d i)->Q x v)(c:At E ρ v F u w)(t:aB ρ x y)
  (z: ∀d,H.wp P (λe n A=>e= .normal/\n.defers= []/\Q n.tmps A) ⟨x,[]⟩ (aK v d 0))(K:CQ z0 P E m b L a i r j M Q fn ρ F u k l):aa P E m b L a i r j M F (G (aR z0 fn y (.code H::k)) l) w:=
 aa.qb g c (Kz o p q s h c.bQ c.fp.nc t z λ_ _ _ _ _ _ B D I J N O=>rj.co B D I J N O) K
theorem aa.ej (o:sG P C)(p: ∃q,P.funcs[f]? =S q)(h: ¬M.late){c:D9}(s:ct P C c=true)(t: ∀x v g d,Q x v->Q x (aK v g d))(i: ∀x v g d,Q x (aK v g d)->Q x v)(n:At E ρ v F u w)(z:aB ρ x y)
  (A: ∀g,c.wp P (λe a B=>e= .normal/\a.defers= []/\Q a.tmps B) ⟨x,[]⟩ (aK v g 0))(K:GN P E m b L End d r j M Q f ρ F u k l):aa P E m b L End d r j M F (G (ak f y (.code c::k)) l) w:=
 aa.lY (z0:=(none,[])) o p h s t i n z A K
theorem vz(j:sG P C)(k: ∃l,P.funcs[f]? =S l)(n:ct P C (.region i p m)=true)(o: ∀x v tp d,Q x v->Q x (aK v tp d))(b: ∀x v tp d,Q x (aK v tp d)->Q x v)(q:dA ρ v w)(r:aB ρ x y)
  (s: ∀tp,(x8 i p m).wp P (λe a c=>e= .normal/\a.defers= []/\Q a.tmps c) ⟨x,[]⟩ (aK v tp 0)):LS P Q f (ak f x [.code (.region i p m)]) [] v:=by
 have t: [F6 (.region i p m)].all (bp P C)=true:=by simp[bp,n]
 refine pW j o b ⟨iN ρ,q.self,.run k r.self t,.nil⟩ λtp=> ?_;obtain ⟨e,u,c,⟨rfl,g,h⟩,z⟩:=s tp (ak f x []) [] [cB];obtain ⟨N,A⟩:=z;obtain ⟨B,D⟩:=u;dsimp only at g h;subst g;exact ⟨N,B,c,A,h⟩
theorem LS.next {a:Frame}(h:LS P Q f a l v)(c: ¬Cut f a l)(tp:Nat->Question->Nat){t:Nat}{b:List Frame}{es:Array p8}(e:nq P a l v tp t= .go (G q (b ++ [cB])) w es):LS P Q f q b w:=by
 cases h with
 | cut _=>exact absurd ⟨_,R,R⟩ c
 | mk _ _ h=>grind
theorem LS.done(a: ∀y v b i,Q y (Go.Proofs.Ytheopdnafbkhpaa.aK v b i)->Q y v)(h:LS P Q f (ak f y [.inRegion p []]) [] v):Q y v:=by
 have c:LS P Q f (ak f y []) [] (Go.Proofs.Ytheopdnafbkhpaa.aK v v.tape 0):=h.next (λ⟨_,e,_⟩=>by have:=congrArg E6 e;cases this) v.tape (t:=0) (es:= #[]) YV;cases c with
 | cut h=>grind
 | mk d _ _=>exact absurd ⟨_,R,R⟩ d
theorem LS.yR (b: ∀y v tp d,Q y (Go.Proofs.Ytheopdnafbkhpaa.aK v tp d)->Q y v){a:Frame}{tp:Nat->Question->Nat}{d:Nat}(h:LS P Q f a l (Go.Proofs.Ytheopdnafbkhpaa.aK v tp d)):LS P Q f a l v:=by
 generalize c:Go.Proofs.Ytheopdnafbkhpaa.aK v tp d=g at h;cases h with
 | cut h=>subst c;exact .cut (b _ _ _ _ h)
 | mk e h k=>subst c;exact .mk e h k
theorem aa.OQ {ey:Array Oper}{L rest:List Nat}(n:sG P C)(o: ∃B,P.funcs[f]? =S B)(h: ¬M.late)(q:Nat)(i:gV P C ey p (p9 ey.size) L)(D:ct P C (.region q ey false)=true)(H: ∀x v tp d,Q x v->Q x (aK v tp d))(g: ∀x v tp d,Q x (aK v tp d)->Q x v)(c:At E ρ v F u w)(s:aB ρ x y)
  (I: ∀tp,(x8 q ey false).wp P (λe z A=>e= .normal/\z.defers= []/\Q z.tmps A) ⟨x,[]⟩ (Go.Proofs.Ytheopdnafbkhpaa.aK v tp 0))(K:CQ z0 P E m b Lg a d r j M Q f ρ F u (.inRegion p rest::k) l):aa P E m b Lg a d r j M F (G (aR z0 f y (.inRegion p (L ++ rest)::k)) l) w:=by
 have J:=vz n o D H g c.bQ s I;have N:LS P Q f (ak f x [.inRegion ey (p9 ey.size ++ [])]) [] v:=by rw[List.append_nil];exact LS.yR g (tp:=v.tape) (d:=0) (J.next (λ⟨_,e,_⟩=>by have:=congrArg E6 e;cases this) v.tape (t:=0) (es:= #[]) YV)
 refine aa.qb h c ?_ K;exact zs n o (tail:= []) (λO x' y' v' A F' T V W X Y Z=>rj.co T V (W.done g) X Y Z) _ _ i N (.refl _) (aq.le_refl _) c.bQ c.fp.nc s
theorem aa.ops {ey b:Array Oper}{L rest:List Nat}(n:sG P cs)(o: ∃f,P.funcs[fn]? =S f)(c: ¬ph.late)(g:Nat)(h:gV P cs ey b (p9 ey.size) L)(p:ct P cs (.region g ey false)=true)(q: ∀x v tp d,Q x v->Q x (aK v tp d))(i: ∀x v tp d,Q x (aK v tp d)->Q x v)(j:At E ρ v F u w)(s:aB ρ x y)
  (t: ∀tp,(x8 g ey false).wp P (λe a w'=>e= .normal/\a.defers= []/\Q a.tmps w') ⟨x,[]⟩ (Go.Proofs.Ytheopdnafbkhpaa.aK v tp 0))(K:GN P E m Sp Lg End d r lg ph Q fn ρ F u (.inRegion b rest::k) l):aa P E m Sp Lg End d r lg ph F (G (ak fn y (.inRegion b (L ++ rest)::k)) l) w:=
 aa.OQ (z0:=(none,[])) n o c g h p q i j s t K
theorem aa.drawn {p q:Array Oper}{W s:Nat}{os o1:Oper}(hP:sG P cs)(hf: ∃f,P.funcs[fn]? =S f)(a3: ¬M.late)(hm:P.follows .mixedOrders=true)(Z:p.size=q.size)(a4: ∀i:Nat,(p[i]?).map (·.after)=(q[i]?).map (·.after))(hs:q[s]? =S os)
  (N: ∀i o,q[i]? =S o-> ∀e∈o.after,v9 .any e=true->e.on<i)(a0: ∀a1,a1<q.size->a1≠s-> ∃e∈os.after,e.on=a1/\v9 .any e=true)(O: ∀i:Nat,i<q.size->i≠s-> ∃o,p[i]? =S o/\q[i]? =S o/\jM P cs o.op=true/\o.guard=none)
  (T:p[s]? =S o1)(a5:o1.dst=none)(a6:o1.guard=none)(a2:o1.op= .move (.const (.bool true)))(hc:ct P cs (.region W p true)=true)(hQ: ∀x v tp d,Q x v->Q x (aK v tp d))(I: ∀x v tp d,Q x (aK v tp d)->Q x v)(A:At E ρ v F u w)(hv:aB ρ x y)
  (hw: ∀tp,(x8 W p true).wp P (λe a w'=>e= .normal/\a.defers= []/\Q a.tmps w') ⟨x,[]⟩ (Go.Proofs.Ytheopdnafbkhpaa.aK v tp 0))(K:GN P E m Sp L End d r j M Q fn ρ F u (.inRegion q [s]::k) l):aa P E m Sp L End d r j M F (G (ak fn y (.code (.region W q true)::k)) l) w:=by
 have h0:=vz hP hf hc hQ I A.bQ hv hw;have st: ∀ (mm:Bool)(z:Array Value)(C:List Frame)(X:World)(t:List Item)(B:Array Oper),j2 P mm (G (ak fn z (.code (.region W B true)::t)) C) X= .go (G (ak fn z (.inRegion B (m8 (P.follows .mixedOrders) B (X.tape X.drawn (.order fn W)))::t)) C) {X with drawn:=X.drawn + 1}:=λmm z C X t B=>by rfl
 have a7: ∀t,∃H,m8 (P.follows .mixedOrders) q t=H ++ [s]/\m8 (P.follows .mixedOrders) p t=H ++ [s]/\gV P cs p q H H:=λt=>by
  have b1:s<q.size:=YS;obtain ⟨H,hL,V⟩:=Ep (md:= .any) hs N a0 q.size t (Array.replicate q.size false) YR (by rw[<-Array.size_replicate (n:=q.size) (v:=false)];grind) (by simp_all);refine ⟨H,?_,?_,?_⟩
  ·simp only[m8,hm,Bool.true_or,if_true];exact hL
  ·simp only[m8,hm,Bool.true_or,if_true];unfold Region.linearise;rw[Er Z a4,Z];exact hL
  ·clear hL;induction H with
   | nil=>exact .nil
   | cons i H ih=>exact .cons (O i (V i YR).1 (V i YR).2) (ih λa1 hj=>V a1 (by simp[hj]))
 refine aa.qb (z0:=(none,[])) a3 A ?_ K;refine .step R (λD hk=>⟨_,_,_,st _ _ _ _ _ _,⟨λ_ _ _ _=>rfl,λb c e f _ h=>⟨c,h,R,λ_ _=>rfl⟩,Nat.le_refl _,λb c e f h=>⟨c,f,h⟩,R,R,R,λe he=>by simp at he⟩,R,R⟩) (λD g w' es hk e=> ?_);rw[st]at e;injection e with e1 e2
 subst e1;subst e2;obtain ⟨H,e1,e2,e3⟩:=a7 (D.tape D.drawn (.order fn W));rw[e1];have hL:LS P Q fn (ak fn x [.inRegion p (H ++ [s])]) [] v:=by refine LS.yR I (tp:=D.tape) (d:=D.drawn + 1) (h0.next (λ⟨_,e,_⟩=>by have:=congrArg Frame.todo e;cases this) D.tape (t:=D.drawn) (es:= #[]) ?_);rw[<-e2];exact st _ _ _ _ _ _
 have a8:dA ρ v {D with drawn:=D.drawn + 1}:=by have:=A.bQ.keep A.fp.nc hk;exact ⟨this.size,this.inj,this.low,this.et,this.pos,this.cells,this.num⟩
 have a9:F.nc.le (F.nc.add D.heap.size D.heap.size):=aq.nI _ _ _;refine zs (z0:=(none,[])) hP hf (tail:= [s]) (λb2 Y y' J w' F' k1 k2 k3 k4 k5 k6=> ?_) _ _ e3 hL (.refl _) a9 a8 ⟨λb x T h2=> .inl (A.fp.dc b x T h2),λb x T h2=> .inl (A.fp.wb b x T h2),λb x T=> .inl (A.fp.num b x T)⟩ hv;refine rj.co k1 k2 ?_ k4 k5 k6;have k7:LS P Q fn (ak fn Y [.inRegion p []]) [] J:=by
  refine LS.yR I (tp:=J.tape) (d:=0) (k3.next (λ⟨_,e,_⟩=>by have:=congrArg Frame.todo e;cases this) J.tape (t:=0) (es:= #[]) ?_);have b0:j7 o1 (n3 p Y)=true:=by unfold j7;rw[a6]
  have:=A8 (P:=P) (main:=true) (b:=ak fn Y []) (a:=⟨Y,[]⟩) (k:= []) (cs:= [cB]) (w:=Go.Proofs.Ytheopdnafbkhpaa.aK J J.tape 0) (rest:= []) (v:= .bool true) (w':=Go.Proofs.Ytheopdnafbkhpaa.aK J J.tape 0) T b0 (by simp[ak]) (by unfold m4;simp[a2,p7]);rw[a5]at this;have hl:u0 P fn ⟨Y,[]⟩ o1 (Go.Proofs.Ytheopdnafbkhpaa.aK J J.tape 0)= #[]:=by unfold u0 m4;simp[a2,r3]
  rw[show (ak fn Y []).fn=fn from rfl,hl]at this;exact this
 exact k7.done I
end
end
section
open Go.ConcR (KK WgAt stA smA)
section
variable {P:Program}{Sp:ca->Tr->bC->List Ak->aq->Goroutine->World->Prop}{End:aq->Goroutine->World->Nat->Prop}{w:World}{b:Frame}{a:Act}{fn:Func}
theorem ue.mono {H:aq}{e:p8}(h:ue F e)(a: ∀b,F.rd b->H.rd b)(c: ∀b,F.wr b->H.wr b)(d: ∀b i,F.cl b i->H.cl b i):ue H e:=by
 cases h with
 | extern f=>exact .extern f
 | room=>exact .room
 | obj h=>exact .obj (a _ h)
 | read h=>exact .read (a _ h)
 | write h=>exact .write (c _ h)
 | put h=>exact .put (d _ _ h)
 | yY h=>exact .yY (c _ h)
theorem oH.Pg(h: ∀e∈o,ue F e):oH F w w o:=
 ⟨λ_ _ _ _=>rfl,λ_ c _ _ _ h=>⟨c,h,R,λ_ _=>rfl⟩,k9 _,λ_ c _ f h=>⟨c,f,h⟩,R,R,R,λe a=>(h e a).mono (λ_ h=> .inl h) (λ_ h=> .inl h) λ_ _ h=>h⟩
theorem aa.Fj (d:RK E F v w)(u:l9)(f: ¬M.late)(o:F.ok)(r:p[i]? =S V)(s:j7 V (n3 p a.tmps)=true)(t:q.kind≠ .early)(y: ∀b,RK E F v b->(execOp a.eval V).run P b= .ok (.value u) b)
  (A: ∀b,RK E F v b-> ∀e∈(execOp a.eval V).events P b #[],ue F e)(K: ∀b,RK E F v b->aa P E m Sp L End n x j M F (G (q.at (a.put V.dst u) (.inRegion p z::k)) l) b):aa P E m Sp L End n x j M F (G (q.at a (.inRegion p (i::z)::k)) l) w:=by
 have g: ∀b,RK E F w b->j2 P m (G (q.at a (.inRegion p (i::z)::k)) l) b= .go (G (q.at (a.put V.dst u) (.inRegion p z::k)) l) b (u0 P q.fn a V b):=λb c=>A8 r s t (y b (d.trans c));refine aa.step (λ_=>F) R f (λb c=>⟨_,_,_,g b c,oH.Pg λe h=>A b (d.trans c) e (eP _ _ e h),⟨R,R⟩,⟨λ_ h=> .inl h,λ_ h=> .inl h,λ_ _ h=> .inl h⟩,o⟩) (λb B C D c e=> ?_);rw[g b c]at e;cases e;exact K b (d.trans c)
structure Grow (w w':World):Prop where
 same: ∀b:Nat,b<w.heap.size->w'.heap[b]? =w.heap[b]?
 size:w.heap.size<=w'.heap.size
 tape:w'.tape=w.tape
 os:w'.os=w.os
 output:w'.output=w.output
theorem Grow.alloc (w:World)(ob:E8):Grow w (w.alloc ob):=⟨λb h=>by show (w.heap.push ob)[b]? =_;grind,YR,R,R,R⟩
theorem aG {a:Type}{x:Array a}{b:Nat}{o:a}(h:x[b]? =S o):b<x.size:=YS
theorem Grow.did{es:Array p8}(h:Grow w v)(b: ∀e∈es,ue (F.add w.heap.size v.heap.size) e):oH F w v es:=
 ⟨λq a _ _=>h.same q a,λq c e f _ a=>⟨c,by rw[h.same q (aG a)];exact a,R,λ_ _=>rfl⟩,h.size,λq c e f a=>⟨c,f,by rw[h.same q (aG a)];exact a⟩,h.tape,h.os,h.output,b⟩
theorem dA.grow {k:World}(b:dA r v w)(h:Grow w k):dA r v k where
 size:=b.size
 inj:=b.inj
 low i x l hi hl:=j6 (b.low i x l hi hl) h.size
 et:=b.et
 pos:=⟨b.pos.1,j6 b.pos.2 h.size⟩
 cells q x hb:=by obtain ⟨c,e,f,m,n,g,d,j,o⟩:=b.cells q x hb;exact ⟨c,e,f,m,n,g,by rw[h.same x (aG d)];exact d,j,o⟩
 num q x hb:=by obtain ⟨a,p,l,g,d,j⟩:=b.num q x hb;exact ⟨a,p,l,g,by rw[h.same x (aG d)];exact d,j⟩
theorem FP.add {n j:Nat}(h:FP r v F):FP r v (F.add n j):=⟨λb x a c=> .inl (h.dc b x a c),λb x a c=> .inl (h.wb b x a c),λb x a=> .inl (h.num b x a)⟩
variable {u:cH}
theorem At.grow {a:World}(h:At E r v F u w)(g:Grow w a):At E r v (F.add w.heap.size a.heap.size) u a where
 bQ:=h.bQ.grow g
 fp:=h.fp.add
 fg:=h.fg.did (es:= #[]) (g.did λe b=>by simp at b)
 cells q j hc:=by obtain ⟨c,e,f,i,d,k⟩:=h.cells q j hc;exact ⟨c,e,f,i,by rw[g.same q (aG d)];exact d,k⟩
 held:=h.held.did (es:= #[]) (g.did λe b=>by simp at b) h.fg.ok
theorem aa.CX (o:RK E F v w)(ob:E8)(b: ¬M.late)(c:FG E F w)(r:p[i]? =S V)(s:j7 V (n3 p a.tmps)=true)(t:q.kind≠ .early)(u: ∀w1,(execOp a.eval V).run P w1= .ok (.value (G2 (S ⟨w1.heap.size,0,none⟩))) (w1.alloc ob))
  (d: ∀w1,∀e∈(execOp a.eval V).events P w1 #[],False)(K: ∀w1,RK E F v w1->aa P E m Sp L End n x j M (F.add w1.heap.size (w1.heap.size + 1)) (G (q.at (a.put V.dst (G2 (S ⟨w1.heap.size,0,none⟩))) (.inRegion p z::k)) l) (w1.alloc ob)):aa P E m Sp L End n x j M F (G (q.at a (.inRegion p (i::z)::k)) l) w:=by
 have g: ∀w1,j2 P m (G (q.at a (.inRegion p (i::z)::k)) l) w1= .go (G (q.at (a.put V.dst (G2 (S ⟨w1.heap.size,0,none⟩))) (.inRegion p z::k)) l) (w1.alloc ob) (u0 P q.fn a V w1):=λw1=>A8 r s t (u w1);have y: ∀w1:World,(w1.alloc ob).heap.size=w1.heap.size + 1:=YR;refine aa.step (λw1=>F.add w1.heap.size (w1.heap.size + 1)) R b (λw1 f=>⟨_,_,_,g w1,(Grow.alloc w1 ob).did λe h=>(d w1 e (eP _ _ e h)).elim,⟨R,R⟩,?_,?_⟩) (λw1 A B es f e=> ?_)
 ·rw[y];exact aq.dG _
 ·have:=((c.keep f).did (es:= #[]) ((Grow.alloc w1 ob).did λe d=>by simp at d)).ok;grind
 ·rw[g w1]at e;cases e;exact K w1 (o.trans f)
def jU (P:o8):Frame:={(default:Frame)with fn:=P.funcs.size,defers:= [],mode:= .panicking [goexitEntry]}
theorem yL(b:P.funcs[f]? =S Y)(a:(Y.name== "runtime.NumGoroutine")=false)(c:Y.body=S H):j2 P m (born P ⟨.fn (.func f) y,#[]⟩) w= .go (G ((baseD f).at ⟨y ++ l3 (Y.ntmps - y.size) U,[]⟩ [.code H]) [jU P]) w #[]:=by
 have d: ¬Y.name= "runtime.NumGoroutine" :=by simpa using a
 rw[<-enter_atD y b c];simp[born,jU,G,j2,A0,callDeferred,C3,x9,b,d,c,m6,r3]
theorem lu{c:List x7}(g:a.defers=⟨.fn (.func f) y,#[]⟩::c)(d:P.funcs[f]? =S Y)(b:(Y.name== "runtime.NumGoroutine")=false)(e:Y.body=S H):
  j2 P m (G {q.at a k with mode:= .returning} l) w= .go (G ((baseD f).at ⟨y ++ Array.replicate (Y.ntmps - y.size) undef,[]⟩ [.code H]) ({q.at ⟨a.tmps,c⟩ k with mode:= .returning}::l)) w #[]:=by
 have h: ¬Y.name= "runtime.NumGoroutine" :=by simpa using b
 rw[<-enter_atD y d e];simp[G,j2,A0,callDeferred,Frame.at,g,C3,x9,d,h,e,m6,r3]
theorem qv {c:Frame}{e:Array y4}(f:p[i]? =S V)(g:j7 V (n3 p a.tmps)=true)(h:q.kind= .deferred)(b:V.op= .call {callee:= .builtin .recover,args:= #[],argTypes:=e})(j:c.mode= .returning):
  j2 P m (G (q.at a (.inRegion p (i::z)::k)) (c::l)) w= .go (G (q.at (a.put V.dst .nilIface) (.inRegion p z::k)) (c::l)) w #[]:=by
 have d:(q.at a (.inRegion p (i::z)::k)).finish .nilIface=q.at (a.put V.dst .nilIface) (.inRegion p z::k):=by rw[B5,f];rfl
 have n:(m4 a.eval V).run P w= .ok .recover w:=by unfold m4;simp[b,go_sem]
 have o:(m4 a.eval V).events P w #[]= #[]:=by unfold m4;simp[b,go_sem]
 rw[stepG_oper f g,<-d];simp[stepG.apply,n,G,Frame.at,m6,o,tryRecover,h,j,r3]
end
end
section
open Go.Proofs
abbrev me:E7:={add:=55,done:=58,wait:=39,relMerge:=75,disable:=59,enable:=61,inBubble:=67,associate:=76,fatal:=77,uOr:=78,uAdd:=79,raceRead:=80,uLoad:=60,uStore:=81,disassociate:=65,semrelease:=82,acquire:=62,isAssociated:=63,uCas:=64,raceWrite:=66,semacquire:=68,orU64:=87,addU64:=88,loadU64:=83,storeU64:=89,casU64:=84,tWgP:=122,tUP:=127,tAssoc:=141,tWg:=101,tAU:=98,tU64:=44,tUint:=125,tU32:=99,tPU32:=131,tPAU:=147,tPU64:=149,tNoCopy:=94,tANoCopy:=95,tAlign64:=96}
theorem wK:E9 Try.prog me:=
 ⟨Try.func55,Try.func58,Try.func39,Try.func75,Try.func59,Try.func61,Try.func67,Try.func76,Try.func77,Try.func78,Try.func79,Try.func80,Try.func60,Try.func81,Try.func65,Try.func82,Try.func62,Try.func63,Try.func64,Try.func66,Try.func68,Try.func87,Try.func88,Try.func83,Try.func89,Try.func84,Try.underlying122,Try.runUnderlying122,Try.sizeOf122,Try.isAgg122,Try.zeroValue122,Try.underlying127,Try.runUnderlying127,Try.sizeOf127,Try.isAgg127,Try.zeroValue127,Try.underlying141,Try.runUnderlying141,Try.sizeOf141,Try.isAgg141,Try.zeroValue141,Try.underlying101,Try.runUnderlying101,Try.sizeOf101,Try.isAgg101,Try.zeroValue101,Try.underlying98,Try.runUnderlying98,Try.sizeOf98,Try.isAgg98,Try.zeroValue98,Try.underlying44,Try.runUnderlying44,Try.sizeOf44,Try.isAgg44,Try.zeroValue44,Try.underlying125,Try.runUnderlying125,Try.sizeOf125,Try.isAgg125,Try.zeroValue125,Try.underlying99,Try.runUnderlying99,Try.sizeOf99,Try.isAgg99,Try.zeroValue99,Try.underlying131,Try.runUnderlying131,Try.sizeOf131,Try.isAgg131,Try.zeroValue131,Try.underlying147,Try.runUnderlying147,Try.sizeOf147,Try.isAgg147,Try.zeroValue147,Try.underlying149,Try.runUnderlying149,Try.sizeOf149,Try.isAgg149,Try.zeroValue149,Try.underlying0,Try.runUnderlying0,Try.sizeOf0,Try.isAgg0,Try.zeroValue0,Try.underlying3,Try.runUnderlying3,Try.sizeOf3,Try.isAgg3,Try.zeroValue3,Try.underlying4,Try.runUnderlying4,Try.sizeOf4,Try.isAgg4,Try.zeroValue4,Try.underlying9,Try.runUnderlying9,Try.sizeOf9,Try.isAgg9,Try.zeroValue9,Try.underlying20,Try.runUnderlying20,Try.sizeOf20,Try.isAgg20,Try.zeroValue20,Try.underlying21,Try.runUnderlying21,Try.sizeOf21,Try.isAgg21,Try.zeroValue21,Zb,Zb⟩
end
def Jo (x:iR×Cl):Prop:= ∀c,x.2 c-> ∀i,¬sends (x.1 i) c
def iA (S:iR):Prop:= ∀i (a b:List Ak) c,S i=a ++ .close c::b-> ¬sends b c
theorem iA.tail {S:iR}(h:iA S){x:Ak}(e:S i=x::s):iA (aO S i s):=by
 intro j a b c f;by_cases d:j=i
 ·subst d;rw[cn]at f;exact h j (x::a) b c YS
 ·rw[aD S s d]at f;exact h j a b c f
theorem iA.step {x y:iR×Cl}(h:iA x.1)(k:AS x y):iA y.1:=by
 cases k with
 | @comm S C i j c k s t b a d=>refine iA.tail (S:=aO S i s) (x:= .recv c k) (h.tail a) ?_;rw[aD S s b.symm];exact d
 | close a=>exact h.tail a
 | over a _=>exact h.tail a
theorem jP {b:iR}{x:Ak}(e:b i=x::s)(h:sends (aO b i s n) W):sends (b n) W:=by obtain ⟨a,c,d⟩:=h;exact ⟨a,kP e n a c,d⟩
theorem Jo.step {x y:iR×Cl}(h:Jo x)(n:One x.1)(o:iA x.1)(k:AS x y):Jo y:=by
 cases k with
 | @comm S C i j c k s t g b p=>
  intro d e l a;have m:aO S i s j= .recv c k::t:=by rw[aD S s g.symm];exact p
  exact h d e l (jP b (jP m a))
 | @close S C i c s b=>
  intro d e l a;rcases e with e | rfl
  ·exact h d e l (jP b a)
  ·by_cases f:l=i
   ·subst f;change sends (aO S l s l) d at a;rw[cn]at a;exact o l [] s d b a
   ·change sends (aO S i s l) d at a;rw[aD S s f]at a;exact f (n.snd l i d a (oh b))
 | @over S C j c t b _=>intro d e l a;exact h d e l (jP b a)
theorem eG.same {x:iR×Cl}(h:eG x)(r:One x.1){c:Nat}{t:List Ak}(e:x.1 i= .send c W::s)(f:x.1 n= .recv c Z::t):W=Z:=by
 induction h with
 | done h=>grind
 | @step x y v _ u=>
  have A:i≠n:=YS;have j:=r.step v;cases v with
  | @comm g C a b w B o t' D d k=>
   dsimp only at e f;by_cases l:a=i
   ·subst l;rw[e]at d;injection d with d _
    injection d with d z
    subst d;subst z;have:=r.rcv n b c (iL f) (iL k);grind
   ·by_cases m:b=n
    ·subst m;rw[f]at k;injection k with k _
     injection k with k z
     subst k;exact absurd (r.snd a i c (eh d) (eh e)) l
    ·have p:a≠n:=by grind
     have q:b≠i:=YS;refine u j ?_ ?_
     ·show aO (aO g a o) b t' i=_;rw[aD _ _ (Ne.symm q),aD _ _ (Ne.symm l)];exact e
     ·show aO (aO g a o) b t' n=_;rw[aD _ _ (Ne.symm m),aD _ _ (Ne.symm p)];exact f
  | @close g C a w o d=>dsimp only at e f;have l:a≠i:=YS;have m:a≠n:=YS;exact u j (by show aO g a o i=_;rw[aD _ _ (Ne.symm l)];exact e) (by show aO g a o n=_;rw[aD _ _ (Ne.symm m)];exact f)
  | @over g C b w t' d _=>dsimp only at e f;have l:b≠i:=YS;have m:b≠n:=YS;exact u j (by show aO g b t' i=_;rw[aD _ _ (Ne.symm l)];exact e) (by show aO g b t' n=_;rw[aD _ _ (Ne.symm m)];exact f)
theorem eG.opened {x:iR×Cl}(h:eG x)(u:One x.1)(v:iA x.1)(w:Jo x)(b:x.1 i= .recv n W::s): ¬x.2 n:=by
 induction h with
 | done h=>grind
 | @step x y o _ p=>
  intro a;have c:=u.step o;have d:=v.step o;have e:=w.step u v o;cases o with
  | @comm k C f l z A q r B t g=>
   dsimp only at b a;by_cases j:l=i
   ·subst j;rw[b]at g;injection g with g _
    injection g with g D
    subst g;exact w n a f (eh t)
   ·have m:f≠i:=by grind
    refine p c d e ?_ a;show aO (aO k f q) l r i=_;rw[aD _ _ (Ne.symm j),aD _ _ (Ne.symm m)];exact b
  | @close k C f z q t=>dsimp only at b a;have j:f≠i:=YS;exact p c d e (by show aO k f q i=_;rw[aD _ _ (Ne.symm j)];exact b) (.inl a)
  | @over k C l z r t _=>dsimp only at b a;have j:l≠i:=YS;exact p c d e (by show aO k l r i=_;rw[aD _ _ (Ne.symm j)];exact b) a
theorem eG.apart {x:iR×Cl}(h:eG x)(w:One x.1)(B:iA x.1)(D:Jo x){k:Nat}{t:List Ak}(d:x.1 i= .send W k::s)(e:x.1 n= .over W::t):False:=by
 induction h with
 | done h=>grind
 | @step x y v _ z=>
  have g:=w.step v;have j:=B.step v;have l:=D.step w B v;cases v with
  | @comm f C c b E F p q G a H=>
   dsimp only at d e;have m:b≠n:=YS;have r:c≠n:=YS;have u:b≠i:=YS;by_cases o:c=i
   ·subst o;rw[d]at a;injection a with a _
    injection a with a I
    subst a;exact m (w.rcv b n W (iL H) (yw e))
   ·refine z g j l ?_ ?_
    ·show aO (aO f c p) b q i=_;rw[aD _ _ (Ne.symm u),aD _ _ (Ne.symm o)];exact d
    ·show aO (aO f c p) b q n=_;rw[aD _ _ (Ne.symm m),aD _ _ (Ne.symm r)];exact e
  | @close f C c E p a=>dsimp only at d e;have o:c≠i:=YS;have m:c≠n:=YS;exact z g j l (by show aO f c p i=_;rw[aD _ _ (Ne.symm o)];exact d) (by show aO f c p n=_;rw[aD _ _ (Ne.symm m)];exact e)
  | @over f C b E q a A=>
   dsimp only at d e;have o:b≠i:=YS;by_cases m:b=n
   ·subst m;rw[e]at a;injection a with a _
    injection a with a
    subst a;exact D W A i (eh d)
   ·exact z g j l (by show aO f b q i=_;rw[aD _ _ (Ne.symm o)];exact d) (by show aO f b q n=_;rw[aD _ _ (Ne.symm m)];exact e)
inductive LL:List Tr->List Tr->Prop
 | head {x y:Tr} {l:List Tr}:Tr.lt x y->LL (x::l) (y::l)
 | tail {x:Tr} {l m:List Tr}:LL l m->LL (x::l) (x::m)
theorem LL.CW {x:Tr}(b:Acc Tr.lt x): ∀ {l:List Tr},Acc LL l->Acc LL (x::l):=by
 induction b with
 | intro x _ c=>
  intro l a;induction a with
  | intro l a d=>
   refine ⟨_,λm e=> ?_⟩;cases e with
   | head h=>exact c _ h ⟨l,a⟩
   | tail h=>grind
theorem LL.acc: ∀l:List Tr,Acc LL l
 | []=>⟨_,λm a=>by cases a⟩
 | x::l=>LL.CW x.acc (LL.acc l)
theorem LL.set {x:Tr}: ∀ {l:List Tr}{i:Nat}{y:Tr},l[i]? =some y->Tr.lt x y->LL (l.set i x) l
 | [],i,y,h,_=>by simp at h
 | z::l,0,y,h,k=>by simp only[List.getElem?_cons_zero,s5]at h;subst h;exact .head k
 | z::l,i + 1,y,h,k=> .tail (LL.set (by assumption) k)
theorem LL.Cq (l:List Tr):Acc (z4 LL) l:=(LL.acc l).transGen
section
open Go.ConcR (KK WgAt stA smA rd wr mk)
structure ff where
 T:Tr
 r:ca
 lg:List bC
 ph:Ph
 F:aq
 L:bC
def Ph.ck:Ph->Bool
 | .tail | .en | .eo | .cu | .gone=>true
 | _=>false
theorem Ph.Em (p:Ph):p.late↔p.ck=true:=by cases p<;>simp[Ph.late,Ph.ck]
def ff.K (D:ff):aq:=if D.ph.ck then .none else D.F
theorem ff.kh (D:ff):D.K.sub D.F:=by
 unfold ff.K;split
 ·exact aq.vH _
 ·exact aq.dG _
variable {D:ff}
theorem ff.lG(h:D.ph.ck=true):D.K= .none:=by simp[ff.K,h]
theorem ff.mu(h:D.ph.ck=false):D.K=D.F:=by simp[ff.K,h]
def bare (g:j0):j0:={g with status:= .running,offers:= .none}
theorem fA (P:o8)(m:Bool)(g:j0)(w:World):j2 P m (bare g) w=j2 P m g w:=stepG_same R R R w
theorem pv (g:j0)(w:World):bare (g.again w)=bare g:=by
 unfold o0;split
 ·dsimp only;split<;>rfl
 ·rfl
 ·rfl
 ·rfl
section
variable (P:Program)(E:Env)(End:aq->Goroutine->World->Nat->Prop)
def oI:ca->Tr->bC->List Ak->aq->j0->World->Prop:=λ_ _ _ _ _ _ _=>False
def gU:aq->j0->World->Nat->Prop:=λ_ _ _ _=>False
def Qm (L:bC)(T:Tr)(d:Nat)(r:ca)(a:Ph)(F:aq)(g:j0)(w:World):Prop:=bX P E false oI L gU T d r [] a F g w
def mC:ca->Tr->bC->List Ak->aq->j0->World->Prop:=λr T L a F g w=>Qm P E L T 0 r (.work false [] a) F g w
def qF (i:Nat):ca->Tr->bC->List Ak->aq->j0->World->Prop:=if i=0 then mC P E else oI
def jc (i:Nat):aq->j0->World->Nat->Prop:=if i=0 then End else gU
def eE (i:Nat)(D:ff)(d:Nat)(g:j0)(w:World):Prop:=bX P E (i==0) (qF P E i) D.L (jc End i) D.T d D.r D.lg D.ph D.K g w
def Cy (w:World)(x:Nat):Prop:= ∃c d a b e,w.heap[x]? =S (.chan c d false a b e)
inductive pg (i:Nat)(D:ff)(g:j0)(w:World):Prop
 | send (c k x:Nat) (s:List Ak) (v z:l9):D.ph= .work false [] (.send c k::s)->D.r c=S x->g=j8 (bare g) #[n5 x v z] .send->
   (∀w1,RK E D.K w w1->j2 P (i==0) (bare g) w1= .comm (bare g) #[n5 x v z] true .send w1 #[])->Cy w x->pg i D g w
 | recv (c x:Nat) (a:Ak) (s:List Ak) (q:Bool) (z:l9):D.ph= .work false [] (a::s)->(a= .over c\/ ∃k,a= .recv c k)->D.r c=S x->g=j8 (bare g) #[n8 x z] (.recv q)->
   (∀w1,RK E D.K w w1->j2 P (i==0) (bare g) w1= .comm (bare g) #[n8 x z] true (.recv q) w1 #[])->Cy w x->pg i D g w
inductive xf (i:Nat)(D:ff)(d:Nat)(g:j0)(w:World):Prop
 | gone:D.ph= .gone->eE P E End i D d g w->xf i D d g w
 | run:D.ph≠ .gone->eE P E End i D d (bare g) w->g.status= .running->xf i D d g w
 | gO:D.ph= .gO->eE P E End i D d (bare g) w->g={bare g with status:= .blocked}->E.on->xf i D d g w
 | fy:eE P E End i D d (bare g) w->pg P E i D g w->xf i D d g w
end
section
variable {E:Env}{End:aq->Goroutine->World->Nat->Prop}
theorem eE.rely {i:Nat}{D:ff}{d:Nat}{g:j0}{w b:World}(h:eE P E a i D d g w)(k:RK E D.K w b):eE P E a i D d g b:=bX.rely h k
theorem cI{d:Nat}(a:D.ph= .gone)(h:eE P E End i D d g w): ∃q,D.T= .nat q/\QuitsD P q d g:=by
 unfold eE at h;generalize D.K=F at h;obtain ⟨T,r,c,ph,e,L⟩:=D;dsimp only at a h ⊢;subst a;cases h with
 | step f j b=>exact absurd trivial b
 | mute _ h=>grind
 | disable h=>grind
 | enable h=>grind
 | said h=>grind
 | leave h=>grind
theorem mE{z:l9}{a:A1}(b:w.heap[i]? =S (.chan n y true W Z m)):(j8 g #[n5 i N z] a).again w={j8 g #[n5 i N z] a with status:= .running}:=by simp[o0,j8,n5,b]
theorem xf.other(h:xf P E a i D n g w)(k:RK E D.K w v)(y: ∀c x,D.r c=S x->Cy w x-> ∃o p A I b K,v.heap[x]? =S (.chan o p A I b K))
  (d:(J=g/\ ∀c x,D.r c=S x->Cy w x->Cy v x)\/J=g.again v):xf P E a i D n J v:=by
 cases h with
 | gone j f=>
  obtain ⟨q,_,T⟩:=cI j f;have:J=g:=by
   rcases d with ⟨h,_⟩ | h
   ·exact h
   ·rw[h,y8 _ T.status]
  subst this;exact .gone j (f.rely k)
 | run j f B=>
  have:J=g:=by
   rcases d with ⟨h,_⟩ | h
   ·exact h
   ·rw[h,y8 _ (.inl B)]
  subst this;exact .run j (f.rely k) B
 | gO j f B L=>
  rcases d with ⟨h,_⟩ | h
  ·subst h;exact .gO j (f.rely k) B L
  ·have e:J={bare g with status:= .running}:=by rw[h,B];simp[o0,bare]
   refine .run YS ?_ (by rw[e]);rw[show bare J=bare g by rw[h,pv]];exact f.rely k
 | fy f j=>
  have V:bare J=bare g:=by
   rcases d with ⟨h,_⟩ | h
   ·rw[h]
   ·rw[h,pv]
  have M:D.ph≠ .gone:=by cases j with | send _ _ _ _ _ _ h=>grind | recv _ _ _ _ _ _ h=>grind
  have key:J.status= .running\/(J=g/\pg P E i D g v):=by
   cases j with
   | send c N x s O z C l m F G=>
    obtain ⟨o,p,A,I,b,K,r⟩:=y c x l G;rcases d with ⟨h,d⟩ | h
    ·exact .inr ⟨h,.send c N x s O z C l m (λt u=>F t (k.trans u)) (d c x l G)⟩
    ·cases A with
     | true=>left;rw[h,m,mE r]
     | false=>exact .inr ⟨by rw[h,m,again_send_open r],.send c N x s O z C l m (λt u=>F t (k.trans u)) ⟨_,_,_,_,_,r⟩⟩
   | recv c x Q s q z C H l m F G=>
    obtain ⟨o,p,A,I,b,K,r⟩:=y c x l G;rcases d with ⟨h,d⟩ | h
    ·exact .inr ⟨h,.recv c x Q s q z C H l m (λt u=>F t (k.trans u)) (d c x l G)⟩
    ·cases A with
     | true=>left;rw[h,m,again_recv_closed r]
     | false=>exact .inr ⟨by rw[h,m,again_recv_open r],.recv c x Q s q z C H l m (λt u=>F t (k.trans u)) ⟨_,_,_,_,_,r⟩⟩
  rcases key with h | ⟨rfl,h⟩
  ·exact .run M (by rw[V];exact f.rely k) h
  ·exact .fy (f.rely k) h
structure Mem (E:Env)(A:Nat->ff)(w:World):Prop where
 eZ: ∀i b,(A i).F.wr b->(A i).F.rd b
 low: ∀i b,(A i).F.rd b->b<w.heap.size
 lr: ∀i b k,(A i).F.cl b k->b<w.heap.size
 own: ∀i b k,(A i).F.cl b k-> ¬ (A i).F.rd b
 apart: ∀i j,i≠j->(A i).F.apart (A j).F
 out: ∀i b,E.S b-> ¬ (A i).F.rd b/\ ∀k,¬ (A i).F.cl b k
 chan: ∀i c b,(A 0).r c=S b-> ¬ (A i).F.rd b/\ ∀k,¬ (A i).F.cl b k
 wg:E.on->E.S E.Wg
 slow: ∀b,E.S b->b<w.heap.size
 pure: ∀i,(A i).F.pure E.S
 wT:E.on->E.S.n<=E.Wg
 tY: ∀c b,(A 0).r c=S b->E.S.n<=b
 vG:E.S.n<=w.heap.size
variable {A:Nat->ff}
theorem Mem.keep{w':World}{es:Array p8}(M:Mem E A w)(d:oH (A i).K w w' es){j:Nat}(a:j≠i):dD (A j).F w w' where
 same b hb:=d.same b (M.low j b hb) (λh=>(M.apart i j a.symm).wr b ((A i).kh.wr b h) hb) λk h=>by
  rcases (A i).kh.cl b k h with g | g
  ·exact (M.apart i j a.symm).cl b k g hb
  ·exact (M.apart i j a.symm).wr b g.1 hb
 size:=d.size
 kind:=d.kind
 tape:=d.tape
 cell b k c e f hk hb:=by
  have l: ¬ (A i).K.wr b:=λh=>(M.apart i j a.symm).GW b k hk (M.eZ i b ((A i).kh.wr b h));obtain ⟨n,g,o,p⟩:=d.cell b c e f l hb;refine ⟨n,g,o,p k λh=> ?_⟩;rcases (A i).kh.cl b k h with m | m
  ·exact (M.apart i j a.symm).cc b k m hk
  ·exact (M.apart i j a.symm).GW b k hk m.2
theorem Mem.free(M:Mem E A w)(b:oH (A i).K w v o)(c:n<w.heap.size)(h: ¬ (A i).F.rd n/\ ∀k,¬ (A i).F.cl n k):v.heap[n]? =w.heap[n]? :=
 b.same n c (λd=>h.1 (M.eZ i n ((A i).kh.wr n d))) λk e=>by
  rcases (A i).kh.cl n k e with a | a
  ·exact h.2 k a
  grind
theorem cZ{o:E8}(h:w.heap[i]? =S o):i<w.heap.size:=YS
theorem Mem.live(M:Mem E A w)(a:oH (A i).K w v o)(h:E.ok w):E.ok v:=⟨λe=>by obtain ⟨f,g,c⟩:=h.1 e;exact ⟨f,g,by unfold WgAt;rw[M.free a (cZ c) (M.out i _ (M.wg e))];exact c⟩,Sx.dR h.2 a.size (λb d=>a.same b (j6 d h.2.1) (λc=>(M.pure i b d).1 ((A i).kh.wr b c)) λk j=>((A i).kh.cl b k j).elim ((M.pure i b d).2 k) λl=>(M.pure i b d).1 l.1) ⟨a.os,a.output⟩⟩
end
end
section
open Go.Conc.Lib Go.ConcR.Gen
open Go.ConcR (KK WgAt stA smA)
section
variable {Sp:ca->Tr->bC->List Ak->aq->Goroutine->World->Prop}{Lg:bC}{End:aq->Goroutine->World->Nat->Prop}{w:World}{b:Frame}{a:Act}{cs:List Frame}{rest:List Nat}{fn:Func}{args:Array Operand}{MQ:Array TypeId}
theorem aa.KP{h:s6}(u:RK E F v w)(e:M≠ .gone)(A:p[i]? =S V)(B:j7 V (n3 p a.tmps)=true)(C:q.kind≠ .early)(d:V.op= .call {callee:= .value h,args,argTypes:=MQ})(o:a.eval h= .func (.func f) #[] y)(g:P.funcs[f]? =S Y)(b:(Y.name== "runtime.NumGoroutine")=false)(r:Y.body=S H)
  (K: ∀c,RK E F v c->aa P E m Sp L End n x j M F (G ((A2 f).at {tmps:=args.map a.eval ++ y ++ l3 (Y.ntmps - (args.map a.eval ++ y).size) U,defers:= []} [.code H]) (q.at a (.inRegion p (i::z)::k)::l)) c):aa P E m Sp L End n x j M F (G (q.at a (.inRegion p (i::z)::k)) l) w:=by
 have s: ¬Y.name= "runtime.NumGoroutine" :=by simpa using b
 have t: ¬Y.body=none:=by rw[r];simp
 refine aa.aT u e (λc _=> ?_) K;have D:(m4 a.eval V).run P c= .ok (.enter f (args.map a.eval ++ y)) c:=by unfold m4;simp only[d,w6,o];simp[m3,C3,x9,g,s,t]
 have I:(m4 a.eval V).events P c #[]= #[]:=by unfold m4;simp only[d,w6,o];simp[m3,C3,x9,g,s,t]
 rw[A9 A B C D,E3 _ g r];have:u0 P q.fn a V c= #[]:=by unfold u0;rw[I];exact r3 P _
 rw[this]
theorem tD {x:s6}(d:p[i]? =S V)(g:j7 V (n3 p a.tmps)=true)(h:q.kind≠ .early)(b:V.op= .defer {callee:= .value x,args:= #[],argTypes:=MQ})(e:a.eval x= .func (.func f) #[] y):
  j2 P m (G (q.at a (.inRegion p (i::z)::k)) l) w= .go (G (q.at (Act.put ⟨a.tmps,⟨.fn (.func f) y,#[]⟩::a.defers⟩ V.dst U) (.inRegion p z::k)) l) w #[]:=by
 have j:(m4 a.eval V).run P w= .ok (.defer ⟨.fn (.func f) y,#[]⟩) w:=by unfold m4;simp only[b,w6,e];simp[m3]
 have n:(m4 a.eval V).events P w #[]= #[]:=by unfold m4;simp only[b,w6,e];simp[m3]
 have c:(q.kind==CallKind.early)=false:=by simpa using h
 rw[stepG_oper d g];simp only[stepG.apply];cases o:V.dst<;>simp[j,G,Frame.at,c,m6,n,r3,Frame.finish,d,Act.put,o]
theorem Grow.keep {w':World}(g:Grow w w')(a: ∀b,F.rd b->b<w.heap.size)(d: ∀b i,F.cl b i->b<w.heap.size):dD F w w' where
 same b hb:=g.same b (a b hb)
 size:=g.size
 kind b c e f h:=⟨c,f,by rw[g.same b (aG h)];exact h⟩
 tape:=g.tape
 cell b i c e f hi h:=⟨c,by rw[g.same b (aG h)];exact h,R,R⟩
theorem Grow.ok {a:World}(g:Grow w a)(h:E.ok w):E.ok a:=⟨λd=>by obtain ⟨e,f,c⟩:=h.1 d;exact ⟨e,f,by unfold WgAt;rw[g.same _ (aG c)];exact c⟩,Sx.dR h.2 g.size (λb i=>g.same b (j6 i h.2.1)) ⟨g.os,g.output⟩⟩
theorem FG.rk(h:FG E F w)(g:Grow w v):RK E F w v:=⟨g.keep h.dZ h.low,g.ok h.live⟩
theorem FG.OE {F':aq}(a: ∀q,F.rd q->F'.rd q)(b: ∀q i,F.cl q i->F'.cl q i)(h:RK E F' w v):RK E F w v:=⟨⟨λq d=>h.keep.same q (a q d),h.keep.size,h.keep.kind,h.keep.tape,λq i c e f g=>h.keep.cell q i c e f (b q i g)⟩,h.ok⟩
theorem nT(c:q.kind= .deferred)(d:a.defers= [])(e:P.funcs[q.fn]? =S fn)(b:fn.results= #[]):j2 P m (G {q.at a k with mode:= .returning} [jU P]) w= .go (G (jU P) []) w:=by have f:=results_none b a.tmps P w;have g:=y6 (P:=P) (w:=w) b a.tmps #[];simp[G,j2,A0,E2,Frame.at,c,d,e,f,g,seen,m6,jU,goexitEntry]
theorem ys:QuitsD P 1 0 (G (jU P) []):=by refine .inr ⟨R,{G (jU P) []with status:= .finished},#[],YR,λw=> ?_,R,R⟩;simp[G,j2,A0,jU,goexitEntry,Frame.catches];rfl
theorem RK.made {j:Nat}{w1:World}{ob:E8}(a:FG E F w)(b:RK E F w v)(h:RK E (F.add n j) (v.alloc ob) w1):RK E F w w1:=
 b.trans (((a.keep b).rk (Grow.alloc v ob)).trans (FG.OE (F:=F) (F':=F.add n j) (λ_ h=> .inl h) (λ_ _ h=>h) h))
theorem FG.made {ob:E8}(h:FG E F w):FG E (F.add w.heap.size (w.heap.size + 1)) (w.alloc ob):=by have:=h.did (es:= #[]) ((Grow.alloc w ob).did λe a=>by simp at a);simp_all
theorem rm (w:World)(a:E8):(w.alloc a).heap[w.heap.size]? =S a:=by show (w.heap.push a)[w.heap.size]? =_;simp
theorem pr (w:World)(ob:E8):(w.alloc ob).heap.size=w.heap.size + 1:=YR
theorem rq{t:y4}{a:Nat×Nat}(h:w.heap[n]? =S (.cells y t a))(b:y[i]? =S N):w.cell? ⟨n,i,none⟩=S N:=by simp[s7,h,b]
structure Ay (Wg A B:Nat)(q:l9)(w:World):Prop where
 a:w.heap[A]? =S (.cells #[G2 (S ⟨Wg,0,none⟩)] 122)
 b:w.heap[B]? =S (.cells #[q] 1)
theorem Ay.keep {Wg A B:Nat}{q:l9}{w1:World}(h:Ay Wg A B q w)(k:RK E F w w1)(a:F.rd A)(b:F.rd B):Ay Wg A B q w1:=⟨(k.keep.same A a).trans h.a,(k.keep.same B b).trans h.b⟩
def CE (A B:Nat):x7:=⟨.fn (.func 56) #[G2 (S ⟨A,0,none⟩),G2 (S ⟨B,0,none⟩)],#[]⟩
theorem aa.SM{d f:aq}{o:List Ak}{r:List (List Ak)}{t:s6}(u:RK E F v w)(z:m=true)(A:E.on)(B: ∀F w b,dD F w b->L F w->L F b)(C:d.sub F)(D:f.sub F)(H:d.apart f)(I:d.ok)(J:f.ok)
  (M:p[i]? =S V)(N:j7 V (n3 p a.tmps)=true)(O:q.kind≠ .early)(g:V.op= .go {callee:= .value t,args:= #[],argTypes:= #[]})(y:a.eval t= .func (.func 56) #[] #[G2 (S ⟨n,0,none⟩),G2 (S ⟨W,0,none⟩)])
  (Q: ∀b,RK E F v b-> ∃T,Sp x T L o d (born P (CE n W)) b)(K: ∀b,RK E F v b->aa P E m Sp Lg End 0 x (j ++ [L]) (.work false r s) f (G (q.at (a.put V.dst U) (.inRegion p rest::k)) cs) b):
  aa P E m Sp Lg End 0 x j (.work true (o::r) s) F (G (q.at a (.inRegion p (i::rest)::k)) cs) w:=by
 have l:=λb=>by
  have X:(m4 a.eval V).run P b= .ok (.spawn (CE n W)) b:=by unfold m4;simp only[g,w6,y];simp[m3,CE]
  have Y:(m4 a.eval V).events P b #[]= #[]:=by unfold m4;simp only[g,w6,y];simp[m3]
  have:=stepG_spawn (P:=P) (main:=m) (cs:=cs) (rest:=rest) (k:=k) M N O X R;unfold u0 at this;rw[Y,r3]at this;exact this
 refine aa.spawn L (λ_=>d) (λ_=>f) z A R B (λb h=>⟨_,_,l b,⟨R,R⟩,⟨R,R⟩,C,D,H,I,J⟩) (λb Z c h e=> ?_) (λb Z c h e=> ?_)
 ·rw[l b]at e;cases e;exact Q b (u.trans h)
 ·rw[l b]at e;cases e;exact K b (u.trans h)
end
section
variable {Sp:ca->Tr->bC->List Ak->aq->Goroutine->World->Prop}{Lg:bC}{End:aq->Goroutine->World->Nat->Prop}{r:ca}{lg:List bC}{b₀:Frame}{a₀:Act}{i₀:Nat}{rest₀:List Nat}{cs:List Frame}{sc:List Ak}{pl:List (List Ak)}{fq:FuncId}{jY:Array Value}{x y:Operand}{MQ:Array TypeId}
theorem DI (o:FG E F w)(h0:E.on)(P:Nat->Nat->aq)(J:aq)(hL: ∀F w w1,dD F w w1->L F w->L F w1)
  (M: ∀A B,w.heap.size<=A->A<B->(P A B).sub ((F.add A (A + 1)).add B (B + 1))/\(P A B).apart J/\(P A B).ok)(v:J.sub F)(N:J.ok)
  (ho:p[i₀]? =S V)(hw:j7 V (n3 p a₀.tmps)=true)(X:b₀.kind≠ .early)(Y:V.op= .call {callee:= .value (.func 34),args:= #[x,y],argTypes:=MQ})(hx:a₀.eval x= G2 (S ⟨E.Wg,0,none⟩))(hy:a₀.eval y= .func (.func f) #[] jY)
  (hc: ∀w1 A B,RK E F w w1->w.heap.size<=A->A<B->Ay E.Wg A B (.func (.func f) #[] jY) w1-> ∃T,b r T L sc (P A B) (born Try.prog (CE A B)) w1)
  (K: ∀w1,RK E F w w1->aa Try.prog E true b Lg a 0 r (lg ++ [L]) (.work false pl s) J (G (b₀.at (a₀.put V.dst (.tuple #[])) (.inRegion p rest₀::k)) l) w1):
  aa Try.prog E true b Lg a 0 r lg (.work false (sc::pl) s) F (G (b₀.at a₀ (.inRegion p (i₀::rest₀)::k)) l) w:=by
 have c:RK E F w w:=RK.self o.live;have Z:(p[i₀]?).bind (·.dst)=V.dst:=by rw[ho];rfl
 refine aa.iG c YR ho hw X Y Try.func34 Zb R ?_;clear c;intro w1 c;have hm:(#[x,y]:Array s6).map a₀.eval= #[G2 (S ⟨E.Wg,0,none⟩),.func (.func f) #[] jY]:=by simp[hx,hy]
 rw[hm];walk_nrmf Try.f34
 refine aa.aT c YR (λ_ _=>u3) ?_;clear c;intro w1 c;refine aa.aT c YR (λ_ _=>m9) ?_;clear c;intro w1 c;refine aa.CX c (.cells #[G2 (S ⟨E.Wg,0,none⟩)] 122) Zc (o.keep c) R R Zd (λ_=>Ze) (λ_ e I=>by simp[go_sem, *]at I) ?_;clear c;intro Q q;walk_nrm;have d:=(o.keep q).made (ob:= .cells #[G2 (S ⟨E.Wg,0,none⟩)] 122);refine aa.CX (RK.self d.live) (.cells #[.func (.func f) #[] jY] 1) Zc d R R Zd (λ_=>Ze) (λ_ e I=>by simp[go_sem, *]at I) ?_;intro t g;walk_nrm;have hA:=q.keep.size;have hB:Q.heap.size<t.heap.size:=by have:=g.keep.size;rw[pr]at this;omega
 have z:=(d.keep g).made (ob:= .cells #[.func (.func f) #[] jY] 1);have C:=λw1 h=>RK.made o q (RK.made d g (w1:=w1) (ob:= .cells #[.func (.func f) #[] jY] 1) (n:=t.heap.size) (j:=t.heap.size + 1) h);have u:Ay E.Wg Q.heap.size t.heap.size (.func (.func f) #[] jY) (t.alloc (.cells #[.func (.func f) #[] jY] 1)):=
  ⟨by rw[(Grow.alloc t _).same _ hB,g.keep.same _ (.inr ⟨k9 _,o9 _⟩)];exact rm _ _,rm _ _⟩
 generalize a0:t.alloc (.cells #[.func (.func f) #[] jY] 1)=wB at z C u ⊢;generalize Q.heap.size=A at *;generalize t.heap.size=B at *;clear a0 g q d t Q;have a1:=z.ok;have W:((F.add A (A + 1)).add B (B + 1)).rd A:= .inl (.inr ⟨k9 _,o9 _⟩);have rB:((F.add A (A + 1)).add B (B + 1)).rd B:= .inr ⟨k9 _,o9 _⟩;obtain ⟨a2,a3,a4⟩:=M A B hA hB;generalize D:(F.add A (A + 1)).add B (B + 1)=FF at *;have c:RK E FF wB wB:=RK.self z.live;refine aa.aT c YR (λ_ _=>l5) ?_;clear c;intro w1 c;refine aa.aT c YR (λ_ _=>u3) ?_;clear c;intro w1 c;refine aa.aT c YR (λ_ _=>m9) ?_;clear c;intro w1 c;refine aa.Fj c (G2 (S ⟨E.Wg,0,none⟩)) Zc a1 R R Zd (λw1 m=>by have a5:=rq (u.keep m W rB).a (i:=0) R;go_simp) (λw1 m e I=>by have a5:=rq (u.keep m W rB).a (i:=0) R;simp[go_sem, *]at I;subst I;exact .read W) ?_;clear c;intro w1 c;walk_nrm;refine aa.iG c YR R R Zd R wK.f_add (nm_add me) R ?_;clear c;intro w1 c;have H:= @xH Try.prog E b Lg a r lg FF w1 me sc pl s;simp only[body_add,addFn,u2]at H;walk_nrmf addFn
 refine H wK h0 c.ok ?_;clear H;intro w2 k2;replace c:=c.trans k2;clear k2;walk_nrm;refine aa.aT c YR (λ_ _=>l5) ?_;clear c;intro w1 c;refine aa.aT c YR (λ_ _=>m9) ?_;clear c;intro w1 c;refine aa.yT c (.func (.func 56) #[] #[G2 (S ⟨A,0,none⟩),G2 (S ⟨B,0,none⟩)]) YR R R Zd (λ_=>Ze) (λ_=>YV) ?_;clear c;intro w1 c;walk_nrm;refine aa.SM c R h0 hL a2 ⟨λO h=>D▸ .inl (.inl (v.rd O h)),λO h=>D▸ .inl (.inl (v.wr O h)),λO i h=>D▸(v.cl O i h).imp id λh=>⟨.inl (.inl h.1),.inl (.inl h.2)⟩⟩ a3 a4 N R R Zd R R (λw1 m=>hc w1 A B (C w1 m) hA hB (u.keep m W rB)) ?_;intro w1 m;have X:=C w1 m;have c:RK E J w1 w1:=RK.self m.ok;clear m;walk_nrm;refine aa.aT c YR (λ_ _=>l5) ?_;clear c;intro w1 c;refine aa.aT c YR (λ_ _=>A3) ?_;clear c;intro w1 c;refine aa.kZ c YR R R Try.func34 R ?_;clear c;intro w2 c;rw[Z];exact (K _ X).rely c
noncomputable def pO (A B d:Nat)(a:Array l9)(b:List Nat):Frame:=(baseD 56).at ⟨#[G2 (S ⟨A,0,none⟩),G2 (S ⟨B,0,none⟩),.func (.func 57) #[] #[G2 (S ⟨A,0,none⟩)],.func (.func d) #[] a,U],[⟨.fn (.func 57) #[G2 (S ⟨A,0,none⟩)],#[]⟩]⟩
 [.inRegion (match Try.f56.body with | some (.seq _ (.region _ c _))=>c | _=> #[]) b]
theorem rF(h:E.ok w)(p:F.ok)(m:F.rd n)(j:F.rd W)(g:Ay E.Wg n W (.func (.func f) #[] jY) w)(q:Try.prog.funcs[f]? =S Y)(d:(Y.name== "runtime.NumGoroutine")=false)(t:Y.body=S H)
  (K: ∀c,RK E F w c->aa Try.prog E false Sp Lg End 0 r lg (.work false [] s) F (G ((A2 f).at ⟨jY ++ l3 (Y.ntmps - jY.size) U,[]⟩ [.code H]) [pO n W f jY [1],jU Try.prog]) c):
  aa Try.prog E false Sp Lg End 0 r lg (.work false [] s) F (born Try.prog (CE n W)) w:=by
 have a:RK E F w w:=RK.self h;refine aa.aT (b:=_) (cs:=_) a YR (λ_ _=>yL Try.func56 Zb R) ?_;clear a;intro c a;walk_nrmf Try.f56
 refine aa.aT a YR (λ_ _=>u3) ?_;clear a;intro c a;refine aa.aT a YR (λ_ _=>m9) ?_;clear a;intro c a;refine aa.yT a (.func (.func 57) #[] #[G2 (S ⟨n,0,none⟩)]) YR R R Zd (λ_=>Ze) (λ_=>YV) ?_;clear a;intro c a;walk_nrm;refine aa.aT a YR (λ_ _=>tD R R Zd R R) ?_;clear a;intro c a;walk_nrm;refine aa.aT a YR (λ_ _=>l5) ?_;clear a;intro c a;refine aa.aT a YR (λ_ _=>m9) ?_;clear a;intro c a;refine aa.Fj a (.func (.func f) #[] jY) Zc p R R Zd (λc k=>by have l:=rq (g.keep k m j).b (i:=0) R;go_simp) (λc k e o=>by have l:=rq (g.keep k m j).b (i:=0) R;simp[go_sem, *]at o;subst o;exact .read j) ?_;clear a;intro c a;walk_nrm;refine aa.KP a YR R R Zd R R q d t ?_;clear a;intro c a;simp only[Array.map_empty,Array.empty_append];exact K c a
theorem zC(k:E.ok w)(q:E.on)(s:F.ok)(l:F.rd n)(h:w.heap[n]? =S (.cells #[G2 (S ⟨E.Wg,0,none⟩)] 122))(v: ∀d,RK E F w d->L F d)(u:l9):
  aa Try.prog E false b L a 0 r j (.work false [] []) F (G ((pO n W f jY [1]).finish u) [jU Try.prog]) w:=by
 have c:RK E F w w:=RK.self k;unfold pO;rw[B5];walk_nrmf Try.f56
 refine aa.aT c YR (λ_ _=>l5) ?_;clear c;intro d c;refine aa.aT c YR (λ_ _=>A3) ?_;clear c;intro d c;refine aa.aT c YR (λ_ _=>lu R Try.func57 Zb R) ?_;clear c;intro d c;walk_nrmf Try.f57
 refine aa.aT c YR (λ_ _=>u3) ?_;clear c;intro d c;refine aa.aT c YR (λ_ _=>u3) ?_;clear c;intro d c;refine aa.aT c YR (λ_ _=>m9) ?_;clear c;intro d c;refine aa.aT c YR (λ_ _=>qv R R R R R) ?_;clear c;intro d c;walk_nrm;refine aa.yT c .nilIface YR R R Zd (λ_=>Ze) (λ_=>YV) ?_;clear c;intro d c;walk_nrm;refine aa.aT c YR (λ_ _=>l5) ?_;clear c;intro d c;refine aa.aT c YR (λ_ _=>u3) ?_;clear c;intro d c;refine aa.aT c YR (λ_ _=>m9) ?_;clear c;intro d c;refine aa.yT c .nilIface YR R R Zd (λ_=>Ze) (λ_=>YV) ?_;clear c;intro d c;walk_nrm;refine aa.yT c (.bool false) YR R R Zd (λ_=>Ze) (λ_=>YV) ?_;clear c;intro d c;walk_nrm;refine aa.aT c YR (λ_ _=>l5) ?_;clear c;intro d c;refine aa.aT c YR (λ_ _=>stepG_cond (t:=false) R) ?_;clear c;intro d c;simp only[r5, ↓reduceIte];refine aa.aT c YR (λ_ _=>stepG_skip) ?_;clear c;intro d c;refine aa.aT c YR (λ_ _=>m9) ?_;clear c;intro d c;refine aa.Fj c (G2 (S ⟨E.Wg,0,none⟩)) Zc s R R Zd (λd m=>by have o:=rq ((m.keep.same n l).trans h) (i:=0) R;go_simp) (λd m e p=>by have o:=rq ((m.keep.same n l).trans h) (i:=0) R;simp[go_sem, *]at p;subst p;exact .read l) ?_;clear c;intro d c;walk_nrm;refine aa.iG c YR R R Zd R Try.func58 Zb R ?_;clear c;intro d c;walk_nrmf Try.f58
 refine aa.aT c YR (λ_ _=>m9) ?_;clear c;intro d c;refine aa.yT c (G2 (S ⟨E.Wg,0,none⟩)) YR R R Zd (λ_=>Ze) (λ_=>YV) ?_;clear c;intro d c;walk_nrm;refine aa.iG c YR R R Zd R wK.f_add (nm_add me) R ?_;clear c;intro d c;have g:= @xG Try.prog E b L a r j F d me;simp only[body_add,addFn,u2]at g;walk_nrmf addFn
 refine g (qt:=8) wK q c.ok (λx y=>v x (c.trans y)) ?_;clear g c;walk_nrm;q_c l5
 q_c A3
 q_leave0 Try.func58
 q_c l5
 q_c A3
 refine QuitsD.leaveD R R Try.func57 R R ?_;refine QuitsD.ctl R (λw=>nT (fn:=Try.f56) R R Try.func56 R) ?_;exact ys
end
end
section
open Classical
section
variable {w:World}{rd wr:Nat->Prop}
noncomputable def lD (a d:Nat->Prop)(b:Nat):E8->E8
 | .cells c e f=>if d b then .cells c e f else if a b then .cells c e (0,max c.size f.2)else .cells #[] e (0,0)
 | o=>o
noncomputable def mS (a b:Nat->Prop)(w:World):World:={w with heap:=w.heap.mapIdx (lD a b)}
theorem dQ (b:Nat):(mS X wr w).heap[b]? =(w.heap[b]?).map (lD X wr b):=by simp[mS]
theorem pY{e:y4}{f:Nat×Nat}(h:w.heap[i]? =S (.cells y e f))(a:wr i):(mS X wr w).heap[i]? =S (.cells y e f):=by rw[dQ,h];simp[lD,a]
theorem kB{e:y4}{f:Nat×Nat}(h:w.heap[i]? =S (.cells y e f))(a: ¬wr i)(b:X i):(mS X wr w).heap[i]? =S (.cells y e (0,max y.size f.2)):=by rw[dQ,h];simp[lD,b,a]
theorem gE{e:y4}{f:Nat×Nat}(h:w.heap[i]? =S (.cells y e f))(a: ¬wr i)(b: ¬X i):(mS X wr w).heap[i]? =S (.cells #[] e (0,0)):=by rw[dQ,h];simp[lD,b,a]
end
end
section
open Classical
section
variable {wr:Nat->Prop}
theorem dA.mask (d:dA r v w):dA r (mS X wr v) w where
 size:=by rw[<-d.size];simp[mS]
 inj:=d.inj
 low:=d.low
 et:=d.et
 pos:=d.pos
 cells b x hb:=by
  obtain ⟨c,e,f,j,m,g,h,i,q⟩:=d.cells b x hb;by_cases n:wr b
  ·exact ⟨c,e,f,j,m,pY g n,h,i,q⟩
  ·by_cases o:X b
   ·exact ⟨c,e,_,j,m,kB g n o,h,i,λk p _ _=>⟨Nat.zero_le _,YP⟩⟩
   ·exact ⟨#[],e,_,j,m,gE g n o,h,.inl R,λk p=>by simp at p⟩
 num b x hb:=by obtain ⟨a,s,l,g,h,i⟩:=d.num b x hb;exact ⟨a,s,l,by rw[dQ,g];rfl,h,i⟩
theorem dA.wQ {X:Nat}{e:y4}{z:Nat×Nat}(g:dA r v w)(h:w.heap[X]? =S (.cells y e z))(B:0<X)(J: ∀ (i:Nat) k,r[i]? =S (X,k)->k= .gone):dA (r.push (X,.cells)) {v with heap:=v.heap.push (.cells #[] e)} w:=by
 have n: ∀ (i:Nat) q,(r.push (X,BK.cells))[i]? =S q->r[i]? =S q\/(i=r.size/\q=(X,.cells)):=YS;refine ⟨?_,λi j x k l o C m D=> ?_,λi x k o m=> ?_,λi x k o m=> ?_,⟨YR,g.pos.2⟩,λb x s=> ?_,λb x s=> ?_⟩
 ·simp[g.size]
 ·rcases n _ _ o with d | ⟨rfl,d⟩<;>rcases n _ _ C with A | ⟨rfl,A⟩
  ·exact g.inj i j x k l d A m D
  ·grind
  ·grind
  ·rfl
 ·rcases n _ _ o with d | ⟨rfl,d⟩
  ·exact g.low i x k d m
  grind
 ·rcases n _ _ o with d | ⟨rfl,d⟩
  ·exact g.et i x k d m
  ·cases d;exact ⟨g.pos.1,B⟩
 ·rcases n _ _ s with d | ⟨rfl,d⟩
  ·obtain ⟨c,E,f,F,G,p,t,u,H⟩:=g.cells b x d;refine ⟨c,E,f,F,G,?_,t,u.imp id (aB.iW λb x h=> ?_),H⟩
   ·show (v.heap.push _)[b]? =_;rw[p6,if_neg (by have:=aG p;omega)];exact p
   grind
  ·cases d;refine ⟨#[],e,(0,0),y,z,?_,h,.inl R,λk m=>by simp at m⟩;show (v.heap.push _)[r.size]? =_;rw[<-g.size];simp
 ·rcases n _ _ s with d | ⟨rfl,d⟩
  ·obtain ⟨a,I,l,p,t,u⟩:=g.num b x d;refine ⟨a,I,l,?_,t,u.iW λb x h=> ?_⟩
   ·show (v.heap.push _)[b]? =_;rw[p6,if_neg (by have:=aG p;omega)];exact p
   grind
  ·cases d
theorem gB (a:aU)(y:Nat):Ext a (a.push (y,.cells)):=by
 refine ⟨λb x h=> ?_,λb x h=> ?_⟩
 ·rw[p6,if_neg (by have:=dP h;omega)];exact h
 grind
theorem FP.wQ {X:Nat}{e:y4}(p:dA r v w)(h:FP r v F):FP (r.push (X,.cells)) {v with heap:=v.heap.push (.cells #[] e)} F:=by
 have o: ∀ (i:Nat) y,(r.push (X,BK.cells))[i]? =S y->r[i]? =S y\/(i=r.size/\y=(X,.cells)):=YS;have g: ∀b,b<r.size->(v.heap.push (F7 #[] e))[b]? =v.heap[b]? :=λb d=>by rw[p6,if_neg (by rw[p.size];omega)]
 have q:(v.heap.push (F7 #[] e))[r.size]? =S (.cells #[] e):=by rw[<-p.size];simp
 refine ⟨λb x d j=> ?_,λb x d j=> ?_,λb x d=> ?_⟩
 ·rcases o _ _ d with a | ⟨rfl,a⟩
  ·obtain ⟨c,l,f,m,n⟩:=j;exact h.dc b x a ⟨c,l,f,(g b (dP a)).symm.trans m,n⟩
  ·obtain ⟨c,l,f,m,n⟩:=j;grind
 ·rcases o _ _ d with a | ⟨rfl,a⟩
  ·obtain ⟨c,l,f,m,n⟩:=j;exact h.wb b x a ⟨c,l,f,(g b (dP a)).symm.trans m,n⟩
  ·obtain ⟨c,l,f,m,k,n,_⟩:=j;grind
 ·rcases o _ _ d with a | ⟨rfl,a⟩
  ·exact h.num b x a
  ·cases a
end
end
def zS:List Nat:= [26,8,9,27,28,51,52,72,
 11,30,54,74,86,90,91,92,93,
 31,32,43,44,85,12,14,
 15,18,
 4,5,20,21,48,49,6,10,29,53,13,23,33,71,42,70,25,41,50]
def ED:List Nat:= [73,22]
def okF (f:Nat):Bool:=zS.contains f || ED.contains f
def oJ (P:o8)(b:Nat->Bool)(f:Nat):Bool:=match P.funcs[f]? with
 | some a=>a.body.isSome && a.name != "runtime.NumGoroutine" && (match a.body with | some c=>ct P b c | none=>false)
 | none=>false
noncomputable def px (f:Nat):Bool:=oJ Try.prog okF f
theorem AN:zS.all px=true:=Zb
theorem Ii:decide (Try.prog.globals.size<=1)=true:=Zb
theorem Dx:E4 Try.f73=S z5:=Zb
theorem sQ:E4 Try.f22=S y7:=Zb
theorem BJ:B6 Try.f73=none:=Zb
theorem qU:B6 Try.f22=none:=Zb
theorem BI:(Try.f73.name== "runtime.NumGoroutine")=false:=Zb
theorem qT:(Try.f22.name== "runtime.NumGoroutine")=false:=Zb
theorem ny(h:zS.contains i=true):px i=true:=List.all_eq_true.1 AN i YS
theorem bh:sG Try.prog okF where
 ok:={
  et:=of_decide_eq_true Ii
  call:=λf a=>by
   unfold okF at a;rw[B8]at a;rcases a with a | a
   ·have h:=ny a;unfold px oJ at h;grind
   ·have h:f=73\/f=22:=by simpa[ED]using a
    rcases h with rfl | rfl
    ·exact ⟨_,Try.func73,by simpa using BI,.inr ⟨R,BJ,.inl Dx⟩⟩
    ·exact ⟨_,Try.func22,by simpa using qT,.inr ⟨R,qU,.inr sQ⟩⟩
  RR:=λf a=>by
   have d:zS.contains f=true:=by simp only[EC,List.contains_eq_mem,q4,p5,or_false,decide_eq_true_eq]at a;rcases a with rfl | rfl | rfl | rfl<;>rfl
   refine ⟨by unfold okF;rw[d];rfl,?_⟩;have h:=ny d;unfold px oJ at h;grind}
 body f fn a b c e:=by
  unfold okF at a;rw[B8]at a;rcases a with a | a
  ·have h:=ny a;unfold px oJ at h;grind
  ·have h:f=73\/f=22:=by simpa[ED]using a
   rcases h with rfl | rfl
   ·rw[Try.func73]at b;cases b;cases e
   ·rw[Try.func22]at b;cases b;cases e
section
variable {Sp:ca->Tr->bC->List Ak->aq->Goroutine->World->Prop}{Lg:bC}{End:aq->Goroutine->World->Nat->Prop}{d:Nat}{r:ca}{ph:Ph}{ρ:aU}{fn:FuncId}{b:Frame}{cs:List Frame}
variable {u:cH}
theorem aa.go (c:At E ρ v F u w)(e:ph≠ .gone)(f: ∀a,j2 P m (G b cs) a= .go (G q l) a #[])(K: ∀a,At E ρ v F u a->aa P E m Sp Lg End d r j ph F (G q l) a):aa P E m Sp Lg End d r j ph F (G b cs) w:=aa.ctl e (λa _=>f a) λa g=>K a (c.rely g)
theorem OU {q:D9}:j2 P m (G (ak f y (.code (.seq H q)::k)) l) w= .go (G (ak f y (.code H:: .code q::k)) l) w #[]:=YV
theorem IK:j2 P m (G (ak f y (.code (.block i H)::k)) l) w= .go (G (ak f y (.code H:: .inBlock i::k)) l) w #[]:=YV
theorem LV:j2 P m (G (ak f y (.code (.loop H)::k)) l) w= .go (G (ak f y (.code H:: .inLoop H::k)) l) w #[]:=YV
theorem IJ:j2 P m (G (ak f y (.inLoop H::k)) l) w= .go (G (ak f y (.code H:: .inLoop H::k)) l) w #[]:=YV
theorem BX:j2 P m (G (ak f y (.inBlock i::k)) l) w= .go (G (ak f y k) l) w #[]:=YV
theorem LW:j2 P m (G (ak f y (.code .skip::k)) l) w= .go (G (ak f y k) l) w #[]:=YV
theorem fe{a:List C1}(h:D8 i k=S a):j2 P m (G (ak f y (.code (.exit i)::k)) l) w= .go (G (ak f y a) l) w #[]:=by simp[G,ak,j2,o7,h]
theorem EV:j2 P m (G (ak f y (.code (.region i p false)::k)) l) w= .go (G (ak f y (.inRegion p (p9 p.size)::k)) l) w #[]:=YV
theorem qj:j2 P m (G (ak f y (.inRegion p []::k)) l) w= .go (G (ak f y k) l) w #[]:=YV
theorem bH {c:s6}{p:D9}{t:Bool}(h:p7 ⟨y,[]⟩ c= .bool t):j2 P m (G (ak f y (.code (.cond c p H)::k)) l) w= .go (G (ak f y (.code (if t then p else H)::k)) l) w #[]:=stepG_cond (b:=A2 f) (a:=⟨y,[]⟩) h
theorem JK:j2 P m (G (ak f y []) l) w= .go (G (cP f y []) l) w #[]:=YV
theorem OT:j2 P m (G (ak f y (.code .ret::k)) l) w= .go (G (cP f y (.code .ret::k)) l) w #[]:=YV
theorem aa.ah {p:D9}(b:At E ρ v F u w)(K: ∀e,At E ρ v F u e->aa P E m Sp L a d r j M F (G (ak f y (.code p:: .code H::k)) l) e)(c:M≠ .gone:=by simp):aa P E m Sp L a d r j M F (G (ak f y (.code (.seq p H)::k)) l) w:=aa.go b c (λ_=>OU) K
theorem aa.aV{p:D9}(b:At E ρ v F u w)(K: ∀e,At E ρ v F u e->aa P E m Sp L a d x j M F (G (ak f y (.code p:: .inBlock i::k)) l) e)(c:M≠ .gone:=by simp):aa P E m Sp L a d x j M F (G (ak f y (.code (.block i p)::k)) l) w:=aa.go b c (λ_=>IK) K
theorem aa.dO(b:At E ρ v F u w)(K: ∀e,At E ρ v F u e->aa P E m Sp L a d x j M F (G (ak f y (.code H:: .inLoop H::k)) l) e)(c:M≠ .gone:=by simp):aa P E m Sp L a d x j M F (G (ak f y (.code (.loop H)::k)) l) w:=aa.go b c (λ_=>LV) K
theorem aa.dw(b:At E ρ v F u w)(K: ∀d,At E ρ v F u d->aa P E m Sp L a i x j M F (G (ak f y (.code H:: .inLoop H::k)) l) d)(c:M≠ .gone:=by simp):aa P E m Sp L a i x j M F (G (ak f y (.inLoop H::k)) l) w:=aa.go b c (λ_=>IJ) K
theorem aa.cd(b:At E ρ v F u w)(K: ∀e,At E ρ v F u e->aa P E m Sp L a d x j M F (G (ak f y k) l) e)(c:M≠ .gone:=by simp):aa P E m Sp L a d x j M F (G (ak f y (.inBlock i::k)) l) w:=aa.go b c (λ_=>BX) K
theorem aa.dh (b:At E ρ v F u w)(K: ∀e,At E ρ v F u e->aa P E m Sp L a d r j M F (G (ak f y k) l) e)(c:M≠ .gone:=by simp):aa P E m Sp L a d r j M F (G (ak f y (.code .skip::k)) l) w:=aa.go b c (λ_=>LW) K
theorem aa.aC(b:At E ρ v F u w)(K: ∀e,At E ρ v F u e->aa P E m Sp Lg a d r j M F (G (ak f y (.inRegion p (p9 p.size)::k)) l) e)(c:M≠ .gone:=by simp):aa P E m Sp Lg a d r j M F (G (ak f y (.code (.region i p false)::k)) l) w:=aa.go b c (λ_=>EV) K
theorem aa.aH {ops:Array Oper}(b:At E ρ v F u w)(K: ∀e,At E ρ v F u e->aa P E m Sp L a d r j M F (G (ak f y k) l) e)(c:M≠ .gone:=by simp):aa P E m Sp L a d r j M F (G (ak f y (.inRegion ops []::k)) l) w:=aa.go b c (λ_=>qj) K
theorem aa.gQ (b:At E ρ v F u w)(K: ∀e,At E ρ v F u e->aa P E m Sp L a d x j M F (G (cP f y []) l) e)(c:M≠ .gone:=by simp):aa P E m Sp L a d x j M F (G (ak f y []) l) w:=aa.go b c (λ_=>JK) K
theorem aa.pP (b:At E ρ v F u w)(K: ∀d,At E ρ v F u d->aa P E m Sp L a i r j M F (G (cP f y (.code .ret::k)) l) d)(c:M≠ .gone:=by simp):aa P E m Sp L a i r j M F (G (ak f y (.code .ret::k)) l) w:=aa.go b c (λ_=>OT) K
theorem dT(d:P.funcs[f]? =S Y)(c:Y.results= #[]):j2 P m (G (cP f y k) (q::l)) w= .go (G (q.finish (.tuple #[])) l) w #[]:=
 B0 (b:=A2 f) (a:=⟨y,[]⟩) R R d (results_none c _ P w) (y6 c _ _)
theorem mZ{t u:Tmp}(d:P.funcs[f]? =S Y)(c:Y.results= #[.tmp t,.tmp u]):j2 P m (G (cP f y k) (q::l)) w= .go (G (q.finish (.tuple #[y.getD t U,y.getD u U])) l) w #[]:=
 B0 (b:=A2 f) (a:=⟨y,[]⟩) R R d (results_tmp2 c _ P w) (events_results_tmp2 c _ _)
theorem EU{t:Tmp}(d:P.funcs[f]? =S Y)(c:Y.results= #[.tmp t]):j2 P m (G (cP f y k) (q::l)) w= .go (G (q.finish (y.getD t U)) l) w #[]:=
 B0 (b:=A2 f) (a:=⟨y,[]⟩) R R d (results_tmp c _ P w) (events_results_tmp c _ _)
theorem fM{rest:List Nat}{args:Array s6}{g:Array y4}(n:p[i]? =S V)(o:V.guard=none)(d:V.op= .call {callee:= .value (.func f),args,argTypes:=g})(h:P.funcs[f]? =S Y)(c:(Y.name== "runtime.NumGoroutine")=false)(j:Y.body=S H):
  j2 P m (G (ak fn y (.inRegion p (i::rest)::k)) l) w= .go (G (ak f (args.map (p7 ⟨y,[]⟩) ++ l3 (Y.ntmps - args.size) U) [.code H]) (ak fn y (.inRegion p (i::rest)::k)::l)) w #[]:=by
 have e:Y.body.isNone=false:=by rw[j];rfl
 have q:j7 V (n3 p (Act.mk y []).tmps)=true:=by unfold j7;rw[o]
 have:=A9 (P:=P) (main:=m) (b:=A2 fn) (a:=⟨y,[]⟩) (k:=k) (cs:=l) (rest:=rest) (w:=w) n q (by simp[A2]) (run_call_body d h c e);rw[E3 _ h j,show u0 P (A2 fn).fn ⟨y,[]⟩ V w= #[] by unfold u0;rw[events_call_body d h c e];rfl,C4]at this;exact this
theorem ET{rest:List Nat}{args:Array s6}{g:Array y4}{x:s6}{c:Array l9}(r:p[i]? =S V)(s:V.guard=none)(e:V.op= .call {callee:= .value x,args,argTypes:=g})(j:p7 ⟨y,[]⟩ x= .func (.func f) #[] c)(h:P.funcs[f]? =S Y)(d:(Y.name== "runtime.NumGoroutine")=false)(n:Y.body=S H):
  j2 P m (G (ak fn y (.inRegion p (i::rest)::k)) l) w= .go (G (ak f (args.map (p7 ⟨y,[]⟩) ++ c ++ l3 (Y.ntmps - (args.size + c.size)) U) [.code H]) (ak fn y (.inRegion p (i::rest)::k)::l)) w #[]:=by
 have o: ¬Y.name= "runtime.NumGoroutine" :=by simpa using d
 have q: ¬Y.body=none:=by rw[n];simp
 have t:j7 V (n3 p (Act.mk y []).tmps)=true:=by unfold j7;rw[s]
 have u:(m4 (p7 ⟨y,[]⟩) V).run P w= .ok (.enter f (args.map (p7 ⟨y,[]⟩) ++ c)) w:=by unfold m4;simp only[e,w6,j];simp[m3,C3,x9,h,o,q]
 have v:(m4 (p7 ⟨y,[]⟩) V).events P w #[]= #[]:=by unfold m4;simp only[e,w6,j];simp[m3,C3,x9,h,o,q]
 have:=A9 (P:=P) (main:=m) (b:=A2 fn) (a:=⟨y,[]⟩) (k:=k) (cs:=l) (rest:=rest) (w:=w) r t (by simp[A2]) u;rw[E3 _ h n,show u0 P (A2 fn).fn ⟨y,[]⟩ V w= #[] by unfold u0;rw[v];rfl,Array.size_append,C4]at this;exact this
theorem bu(a:p[i]? =some V)(u:l9):(ak f y (.inRegion p (i::z)::k)).finish u=ak f (match V.dst with | some d=>y.setIfInBounds d u | none=>y) (.inRegion p z::k):=pI a u
end
section
variable {ρ:aU}{x:Array Value}{t:Nat}
theorem aB.ev (h:aB ρ x y){u:l9}(a:x[t]? =S u):VR ρ u (p7 ⟨y,[]⟩ (.tmp t)):=by have:=h.getD t;rw[Array.getD_eq_getD_getElem?,a]at this;exact this
theorem aB.bool (h:aB ρ x y){b:Bool}(a:x[t]? =S (.bool b)):Act.eval ⟨y,[]⟩ (.tmp t)= .bool b:=by have:=h.ev a;generalize Act.eval ⟨y,[]⟩ (.tmp t)=z at this;cases this;rfl
theorem aB.int (h:aB r x y){a:IntKind}{n:Int}(b:x[t]? =S (.int a n)):Act.eval ⟨y,[]⟩ (.tmp t)= .int a n:=by have:=h.ev b;generalize Act.eval ⟨y,[]⟩ (.tmp t)=z at this;cases this;rfl
theorem VR.at {a:Addr}{X:Nat}{z:l9}(h:VR ρ (.pointer (S a)) z)(e:ρ[a.block]? =S (X,.cells)):z= G2 (S ⟨X,a.off,a.spot⟩):=by
 cases h with
 | @ptr _ b c=>obtain ⟨d,f,g⟩:=c;rw[e]at d;simp_all
 | num d _ _=>grind
theorem VR.fn{z:l9}(h:VR r (.func (.func f) #[] y) z): ∃a,z= .func (.func f) #[] a/\aB r y a:=by
 cases h with
 | @func _ _ b _ c _ g i d e=>have:b= #[]:=YS;subst this;exact ⟨c,R,d,e⟩
theorem aB.put (h:aB ρ x y){d:Option Nat}{u:l9}(a:VR ρ u N):aB ρ (match d with | some d=>x.setIfInBounds d u | none=>x) (match d with | some d=>y.setIfInBounds d N | none=>y):=by
 cases d with
 | none=>exact h
 | some d=>exact h.set a
theorem VR.unit:VR ρ (.tuple #[]) (.tuple #[]):=eK.vr ρ
theorem aB.ei {a b:Array l9}(h:aB r a b)(n:Nat):aB r (a ++ l3 n U) (b ++ l3 n U):=
 h.append ⟨YR,λi x y c d=>by
  rw[Array.getElem?_replicate]at c d;have e:x=U:=by split at c<;>(grind)
  have f:y=U:=by split at d<;>(grind)
  rw[e,f];exact eK.vr r⟩
end
noncomputable def CK:D9:=match Try.f50.body with | some (.seq _ (.block _ (.loop c)))=>c | _=> .skip
structure qJ (v:World)(bF bN bW bK first n W:Nat)(wk:l9):Prop where
 f:v.cell? ⟨bF,0,none⟩=S (G0 G1 first)
 n:v.cell? ⟨bN,0,none⟩=S (G0 G1 n)
 w:v.cell? ⟨bW,0,none⟩=S (G0 G1 W)
 k:v.cell? ⟨bK,0,none⟩=S wk
theorem qJ.heap {v':World}{bF d b:Nat}(h:qJ v bF i Z d b n W N)(e:v'.heap=v.heap):qJ v' bF i Z d b n W N:=by
 have c: ∀a,v'.cell? a=v.cell? a:=λa=>by unfold s7;rw[e]
 exact ⟨(c _).trans h.f,(c _).trans h.n,(c _).trans h.w,(c _).trans h.k⟩
section
variable {E:Env}{Sp:ca->Tr->bC->List Ak->aq->Goroutine->World->Prop}{Lg:bC}{End:aq->Goroutine->World->Nat->Prop}{r:ca}{lg:List bC}{l:List Frame}{n W first bF bN bW bK:Nat}{fw:FuncId}{wc:Array Value}{fu:Func}{cw:Code}{I:(Nat->Prop)->aU->World->aq->cH->Prop}
def kn (E:Env)(p:ca->Tr->bC->List Ak->aq->j0->World->Prop)(q:bC)(f:aq->j0->World->Nat->Prop)(r:ca)(s:List bC)(n W a t u x y:Nat)(k:r4)(m:Array l9)(A:Func)(B:D9)(I:(Nat->Prop)->aU->World->aq->cH->Prop):Prop:=
 ∀ (D:Nat->Prop)(i:Nat)(g:aU)(v:World)(F:aq)(val:cH)(w:World)(c:Frame)(l:List Frame)(d:Array l9),i<n->i % W=a-> ¬D i->I D g v F val->At E g v F val w->aB g m d->qJ v t u x y a n W (.func (.func k) #[] m)->
  (∀e o h b z,Ext g e->F.le h->b.bk=val.bk->At E e o h b z->I (λj=>D j\/j=i) e o h b->qJ o t u x y a n W (.func (.func k) #[] m)->aa Try.prog E false p q f 0 r s (.work false [] []) h (G (c.finish (.tuple #[])) l) z)->
  aa Try.prog E false p q f 0 r s (.work false [] []) F (G (ak k (#[G0 G1 i] ++ d ++ l3 (A.ntmps - (1 + d.size)) U) [.code B]) (c::l)) w
theorem Bv (hW:0<W)(hb:n + W<4611686018427387904)(hf:Try.prog.funcs[f]? =S Y)(u:(Y.name== "runtime.NumGoroutine")=false)(a7:Y.body=S H)(z:kn E b Lg a x j n W i Z bN bW bK f wc Y H I)
  (A: ∀D o k v m F M val,Ext o k->m.heap=v.heap->F.le M->I D o v F val->I D k m M val)
  (O: ∀D o v F val w y,I D o v F val->At E o v F val w->(∀g,g<n->g % W=i->D g)->aa Try.prog E false b Lg a 0 x j (Ph.work false [] []) F (G (ak 50 y []) l) w):
  ∀ (q e:Nat)(D:Nat->Prop)(o:aU)(v:World)(F:aq)(val:cH)(w:World)(y:Array Value)(u5 u6 u7 u8 u9 u10 u11 u12 u13 u14:Value),n + W - e<=q->e<n + W->e % W=i->(∀g,g<n->g % W=i->(D g↔g<e))->I D o v F val->At E o v F val w->qJ v Z bN bW bK i n W (.func (.func f) #[] wc)->
   aB o #[G2 (S ⟨Z,0,none⟩),G2 (S ⟨bN,0,none⟩),G2 (S ⟨bW,0,none⟩),G2 (S ⟨bK,0,none⟩),G0 G1 e,u5,u6,u7,u8,u9,u10,u11,u12,u13,u14] y->
   aa Try.prog E false b Lg a 0 x j (Ph.work false [] []) F (G (ak 50 y [.code CK,.inLoop CK,.inBlock 0]) l) w:=by
 intro q;induction q with
 | zero=>omega
 | succ q ih=>
  intro e D o v F val w y u5 u6 u7 u8 u9 u10 u11 u12 u13 u14 hq hi B hD hI c hg hv;have C:CK=CK:=rfl;conv at C=>rhs;unfold CK;simp only[Try.f50]
  rw[C];refine aa.ah c λw c=> ?_;refine aa.ah c λw c=> ?_;refine aa.ej (Q:=λN m=>N= #[G2 (S ⟨Z,0,none⟩),G2 (S ⟨bN,0,none⟩),G2 (S ⟨bW,0,none⟩),G2 (S ⟨bK,0,none⟩),G0 G1 e,u5,G0 G1 e,G0 G1 n,.bool (decide (e<n)),u9,u10,u11,u12,u13,u14]/\m.heap=v.heap) bh ⟨_,Try.func50⟩ Zc Zb YU YU c hv (λP=> ?_) ?_
  ·have hn:(aK v P 0).cell? ⟨bN,0,none⟩=S (G0 G1 n):=hg.n;go_wp2
   rfl
  ·rintro k N y' m w' M hE hF ⟨rfl,V⟩ c hv;have X:=hg.heap V;have a0:=A D o k v m F M val hE V hF hI;refine aa.go c YR (λ_=>bH (hv.bool R)) λw c=> ?_;by_cases J:e<n
   ·rw[decide_eq_true J];simp only[if_true];have a8: ¬D e:=YS;refine aa.dh c λw c=> ?_;refine aa.ah c λw c=> ?_;refine aa.aV c λw c=> ?_;refine aa.aC c λw c=> ?_;refine aa.ops (L:= [0,1]) (rest:= [2]) (ey:= #[_,_]) (Q:=λN v1=>N= #[G2 (S ⟨Z,0,none⟩),G2 (S ⟨bN,0,none⟩),G2 (S ⟨bW,0,none⟩),G2 (S ⟨bK,0,none⟩),G0 G1 e,u5,G0 G1 e,G0 G1 n,.bool (decide (e<n)),u9,u10,u11,.func (.func f) #[] wc,G0 G1 e,u14]/\v1.heap=m.heap) bh ⟨_,Try.func50⟩ Zc 0 (.cons ⟨_,R,R,Zb,R⟩ (.cons ⟨_,R,R,Zb,R⟩ .nil)) Zb YU YU c hv (λP=> ?_) ?_
    ·have hn:(aK m P 0).cell? ⟨bK,0,none⟩=S (.func (.func f) #[] wc):=X.k;go_wp2
     assumption
    ·rintro a1 x1 y1 v1 w1 F1 a9 b0 ⟨rfl,r⟩ c K;have b1:=X.heap r;have b2:=A D k a1 m v1 M F1 val a9 r b0 a0;obtain ⟨b3,b4,a2⟩:=(K.ev (t:=12) R).fn;refine aa.go c YR (λ_=>ET R R R b4 hf u a7) λw c=> ?_;have a3:(#[Operand.tmp 13]:Array s6).map (p7 ⟨y1,[]⟩)= #[G0 G1 e]:=by have:=K.int (t:=13) R;simp[this]
     rw[a3];refine z D e a1 v1 F1 val w _ _ b3 J B a8 b2 c a2 b1 ?_;intro c2 v2 F2 a4 w2 b5 c3 _ c b6 a5;rw[bu R];have a6:=(aB.mono b5 K).put (d:=S 14) VR.unit;simp only[r6,y9,z3]at a6;refine aa.aH c λw c=> ?_;refine aa.cd c λw c=> ?_;obtain ⟨T,hT⟩: ∃T:Nat,T=e + W:=⟨_,R⟩;have c4:=au hT;have c5:IntKind.i64.wrap ((e:Int) + (W:Int))=(T:Int):=by rw[A4];omega
     refine aa.ej (Q:=λN m=>N= #[G2 (S ⟨Z,0,none⟩),G2 (S ⟨bN,0,none⟩),G2 (S ⟨bW,0,none⟩),G2 (S ⟨bK,0,none⟩),G0 G1 T,u5,G0 G1 e,G0 G1 n,.bool (decide (e<n)),G0 G1 e,G0 G1 W,G0 G1 T,.func (.func f) #[] wc,G0 G1 e,.tuple #[]]/\m.heap=v2.heap) bh ⟨_,Try.func50⟩ Zc Zb YU YU c a6 (λP=> ?_) ?_
     ·have hn:(aK v2 P 0).cell? ⟨bW,0,none⟩=S (G0 G1 W):=a5.w;clear hT;go_wp2
      rfl
     ·rintro b7 x3 y3 v3 w3 F3 b8 b9 ⟨rfl,s⟩ c c1;refine aa.dw c λw c=> ?_;rw[<-C];subst hT;refine ih (e + W) (λg=>D g\/g=e) b7 v3 F3 a4 w y3 _ _ _ _ _ _ _ _ _ _ YP YP (by rw[Nat.add_mod_right];exact B) (λg hj p=> ?_) (A _ _ _ _ _ _ _ _ b8 s b9 b6) c (a5.heap s) c1;rw[hD g hj p];constructor
      ·omega
      ·intro h;rcases Nat.lt_or_ge g e with h1 | h1
       ·omega
       ·refine .inr ?_;have h2:=(Nat.sub_mod_eq_zero_of_mod_eq (p.trans B.symm));have h3:g - e<W:=YP;rw[Nat.mod_eq_of_lt h3]at h2;omega
   ·rw[decide_eq_false J];simp only[r5, ↓reduceIte];refine aa.go c YR (λ_=>fe R) λw c=> ?_;exact O D k m M val w y' a0 c λg hj p=>(hD g hj p).2 YP
variable {O:(Nat->Prop)->aU->World->aq->cH->Prop}
theorem kn.hold {e:Nat->Option E8}(h:kn E b L a x j n W i Z bN bW bK f y Y H O):kn E b L a x j n W i Z bN bW bK f y Y H (λD g v F val=>O D g v F val/\val.bk=e):=
 λD q g v F val w c l k r s t o u z A K=>h D q g v F val w c l k r s t o.1 u z A λm B C d G I J p M N P=>K m B C d G I J p M ⟨N,p.trans o.2⟩ P
variable {u:cH}
theorem xQ {A B:Nat}{c:aU}(h0:E.on)(N:i<W)(hb:n + W<4611686018427387904)(hf:Try.prog.funcs[f]? =S Y)(k:(Y.name== "runtime.NumGoroutine")=false)(O:Y.body=S H)(l:kn E Sp L End r j n W i Z bN bW bK f wc Y H I)
  (o: ∀D c d v e F m u,Ext c d->e.heap=v.heap->F.le m->I D c v F u->I D d e m u)
  (p: ∀D c v F u w,I D c v F u->At E c v F u w->(∀M,M<n->M % W=i->D M)->L F w)
  (a:At E c v F u w)(hI:I (λ_=>False) c v F u)(hg:qJ v Z bN bW bK i n W (.func (.func f) #[] wc))(hv:aB c #[G2 (S ⟨Z,0,none⟩),G2 (S ⟨bN,0,none⟩),G2 (S ⟨bW,0,none⟩),G2 (S ⟨bK,0,none⟩)] y)
  (hA:u.bk A=S (.cells #[G2 (S ⟨E.Wg,0,none⟩)] 122))(hB:u.bk B=S (.cells #[.func (.func 50) #[] y] 1)):aa Try.prog E false Sp L End 0 r j (Ph.work false [] []) F (born Try.prog (CE A B)) w:=by
 have q:=a.held A _ hA;have s:=a.held B _ hB;refine rF a.fg.live a.fg.ok q.1 s.1 ⟨q.2.2,s.2.2⟩ Try.func50 Zb R ?_;intro P T;replace a:=a.rely T;have a2:y.size=4:=by have:=hv.1;simpa using this.symm
 have V:aB c #[G2 (S ⟨Z,0,none⟩),G2 (S ⟨bN,0,none⟩),G2 (S ⟨bW,0,none⟩),G2 (S ⟨bK,0,none⟩),U,U,U,U,U,U,U,U,U,U,U] (y ++ l3 11 U):=hv.ei 11;rw[show Try.f50.ntmps - y.size=11 by simp_all];change aa Try.prog E false Sp L End 0 r j (Ph.work false [] []) F (G (ak 50 (y ++ l3 11 U) [.code _]) _) P;refine aa.ah a λw a=> ?_;refine aa.ej (Q:=λx' e=>x'= #[G2 (S ⟨Z,0,none⟩),G2 (S ⟨bN,0,none⟩),G2 (S ⟨bW,0,none⟩),G2 (S ⟨bK,0,none⟩),G0 G1 i,G0 G1 i,U,U,U,U,U,U,U,U,U]/\e.heap=v.heap) bh ⟨_,Try.func50⟩ Zc Zb YU YU a (x:= #[G2 (S ⟨Z,0,none⟩),G2 (S ⟨bN,0,none⟩),G2 (S ⟨bW,0,none⟩),G2 (S ⟨bK,0,none⟩),U,U,U,U,U,U,U,U,U,U,U]) V (λtp=> ?_) ?_
 ·have hn:(aK v tp 0).cell? ⟨Z,0,none⟩=S (G0 G1 i):=hg.f;go_wp2
  rfl
 ·rintro d x' y' e w' m hE hF ⟨rfl,t⟩ a X;refine aa.aV a λw a=> ?_;refine aa.dO a λw a=> ?_;refine Bv (I:=λD c v F g=>I D c v F g/\g.bk=u.bk) YP hb hf k O l.hold (λD c d v e F m u h1 h2 h3 h4=>⟨o D c d v e F m u h1 h2 h3 h4.1,h4.2⟩) ?_ (n + W) i (λ_=>False) d e m u w y' _ _ _ _ _ _ _ _ _ _ YP YP (A5 N) ?_ ⟨o _ _ _ _ _ _ _ _ hE t hF hI,R⟩ a (hg.heap t) X
  ·intro D a0 v2 F2 z w2 y2 C b J;refine aa.gQ b λw b=> ?_;refine aa.go b YR (λ_=>dT Try.func50 R) λw b=> ?_;have K:=b.held A _ (by rw[C.2];exact hA);exact zC b.fg.live h0 b.fg.ok K.1 K.2.2 (λP T=>p D a0 v2 F2 z P C.1 (b.rely T) J) _
  ·intro M hj a1;constructor
   ·simp
   ·intro h;rw[A5 YP]at a1;omega
end
section
open Classical
section
variable {ρ:aU}{v:World}{X Wk:Nat->Prop}
noncomputable def dL (ρ:aU)(X Wk:Nat->Prop)(v:World):World:=mS (λb=> ∀x,ρ[b]? =S (x,.cells)-> ¬X x) (λb=> ∃x,ρ[b]? =S (x,.cells)/\Wk x) v
theorem FP.dL {i:aq}(l:dA ρ v w)(h:FP ρ v F)(n: ∀x,F.rd x-> ¬X x->i.rd x)(u: ∀x,Wk x->i.wr x/\i.rd x)(o: ∀b x:Nat,ρ[b]? =S (x,.num)->i.rd x):FP ρ (Go.Proofs.Ytheopdnafbkhpaa.dL ρ X Wk v) i where
 dc b x hb hd:=by
  obtain ⟨c,e,f,p,q,g,_⟩:=l.cells b x hb;obtain ⟨r,s,t,d,m⟩:=hd;unfold Go.Proofs.Ytheopdnafbkhpaa.dL at d;by_cases j: ∃x,ρ[b]? =S (x,.cells)/\Wk x
  ·grind
  ·by_cases a: ∀x,ρ[b]? =S (x,.cells)-> ¬X x
   ·rw[kB g j a]at d;cases d;exact n x (h.dc b x hb ⟨c,e,f,g,m⟩) (a x hb)
   ·rw[gE g j a]at d;grind
 wb b x hb hd:=by
  obtain ⟨c,e,f,p,q,g,_⟩:=l.cells b x hb;obtain ⟨r,s,t,d,k,m,y⟩:=hd;unfold Go.Proofs.Ytheopdnafbkhpaa.dL at d;by_cases j: ∃x,ρ[b]? =S (x,.cells)/\Wk x
  ·grind
  ·by_cases a: ∀x,ρ[b]? =S (x,.cells)-> ¬X x
   ·rw[kB g j a]at d;grind
   ·rw[gE g j a]at d;grind
 num:=o
theorem bq:(dL ρ X Wk v).heap.size=v.heap.size:=by simp[dL,mS]
theorem bz {a:Addr}{u:l9}(h:v.cell? a=some u)(g: ∀x,ρ[a.block]? =some (x,.cells)-> ¬X x):(dL ρ X Wk v).cell? a=some u:=by
 unfold s7 at h ⊢;cases b:v.heap[a.block]? with
 | none=>grind
 | some o=>
  rw[b]at h;cases o with
  | cells c e f=>
   have j: ∃i,(dL ρ X Wk v).heap[a.block]? =some (.cells c e i):=by
    by_cases d: ∃x,ρ[a.block]? =some (x,.cells)/\Wk x
    ·exact ⟨_,pY b d⟩
    ·exact ⟨_,kB b d g⟩
   grind
  | _=>unfold dL;rw[dQ,b];exact h
theorem jS{o:E8}(h:v.heap[i]? =S o)(a:r[i]? =S (n,.cells))(b:Wk n):(dL r X Wk v).heap[i]? =S o:=by
 unfold dL;rw[dQ,h];cases o with
 | cells c e f=>simp only[B4,lD,if_pos (show ∃n,r[i]? =S (n,BK.cells)/\Wk n from ⟨n,a,b⟩)]
 | _=>rfl
variable {u:cH}
theorem At.ex {c:aq}{a:cH}(h:At E ρ v F u w)(e: ∀x,F.rd x-> ¬X x->c.rd x)(f: ∀x,Wk x->c.wr x/\c.rd x)(g: ∀b x:Nat,ρ[b]? =S (x,.num)->c.rd x)(d:FG E c w)(i:Cells c.cl a w)(j:oX c a w):At E ρ (dL ρ X Wk v) c a w:=⟨h.bQ.mask,h.fp.dL h.bQ e f g,d,i,j⟩
end
def bO:cH:=⟨λ_ _=>none,λ_=>none,λ_=>none⟩
def yU (a z:Nat)(c:Nat->Option E8):cH:=⟨λ_ _=>none,c,λb=>if b=a then S z else none⟩
theorem pQ (F:aq)(w:World):oX F bO w:=λ_ _ h=>by cases h
def Qz (a s n W f:Nat)(b j:Nat):Prop:=b=a/\j<s * n/\f<=(j / s) % W
def Qy (a s n W f:Nat)(b j:Nat):Prop:=b=a/\j<s * n/\(j / s) % W=f
def fi (a:Nat->Nat->Prop)(W f:Nat)(b:Nat):Prop:= ∃g,f<=g/\g<W/\a g b
def pM (F:aq)(a:Nat->Nat->Prop)(c s n W f A B:Nat):aq:=⟨λb=>(F.rd b/\ ¬fi a W (f + 1) b)\/b=A\/b=B,a f,Qy c s n W f⟩
def pN (F:aq)(a:Nat->Nat->Prop)(c s n W f:Nat):aq:=⟨λb=>F.rd b/\ ¬a f b,fi a W (f + 1),Qz c s n W (f + 1)⟩
structure PF (F:aq)(Wc:Nat->Nat->Prop)(R s n W f:Nat):Prop where
 cl:F.cl=Qz R s n W f
 wr: ∀b,fi Wc W f b->F.wr b/\F.rd b
 lN: ∀g g' b,Wc g b->Wc g' b->g=g'
theorem PF.le {a:aq}{R:Nat}(h:PF F B R i n W Z)(k:F.le a):PF a B R i n W Z:=⟨k.uK.trans h.cl,λb c=>⟨k.wr b (h.wr b c).1,k.rd b (h.wr b c).2⟩,h.lN⟩
section
variable {Wc:Nat->Nat->Prop}{f A B:Nat}
theorem xS (d:PF F Wc i Z n W f)(e:FG E F w)(r:i<w.heap.size)(c: ¬F.rd i)(o:f<W)(u:w.heap.size<=A)(v:A<B):
  (pM F Wc i Z n W f A B).sub ((F.add A (A + 1)).add B (B + 1))/\(pM F Wc i Z n W f A B).apart (pN F Wc i Z n W f)/\(pM F Wc i Z n W f A B).ok:=by
 have p: ∀b,fi Wc W (f + 1) b->F.rd b/\F.wr b:=λb ⟨g,s,m,l⟩=>⟨(d.wr b ⟨g,YP,m,l⟩).2,(d.wr b ⟨g,YP,m,l⟩).1⟩;have q: ∀b,Wc f b->F.rd b/\F.wr b:=λb h=>⟨(d.wr b ⟨f,k9 _,o,h⟩).2,(d.wr b ⟨f,k9 _,o,h⟩).1⟩;have k:i≠A:=YP;have t:i≠B:=YP;refine ⟨⟨λb h=> ?_,λb h=> .inl (.inl (q b h).2),λb j h=> ?_⟩,⟨λb h a=>a.2 h,λb h a=> ?_,λb j h a=> ?_,λb j h a=> ?_,λb j h a=> ?_⟩,⟨λb h=> .inl ⟨(q b h).1,λ⟨g,s,m,l⟩=> ?_⟩,λb j h a=> ?_⟩⟩
 ·rcases h with h | rfl | rfl
  ·exact .inl (.inl h.1)
  ·exact .inl (.inr ⟨k9 _,o9 _⟩)
  ·exact .inr ⟨k9 _,o9 _⟩
 ·refine .inl ?_;show F.cl b j;rw[d.cl];exact ⟨h.1,h.2.1,by have:=h.2.2;omega⟩
 ·rcases a with a | rfl | rfl
  ·exact a.2 h
  ·have:=e.dZ _ (p _ h).1;omega
  ·have:=e.dZ _ (p _ h).1;omega
 ·have:=h.2.2;have:=a.2.2;omega
 ·rw[h.1]at a;exact c a.1
 ·rw[h.1]at a;rcases a with a | a | a
  ·exact c a.1
  ·exact k a
  omega
 ·have:=d.lN _ _ _ h l;omega
 ·rw[h.1]at a;rcases a with a | a | a
  ·exact c a.1
  ·exact k a
  omega
theorem Bw (a:PF F Wc i Z n W f)(d: ¬F.rd i):(pN F Wc i Z n W f).sub F/\(pN F Wc i Z n W f).ok/\PF (pN F Wc i Z n W f) Wc i Z n W (f + 1):=by
 have e: ∀b,fi Wc W (f + 1) b->F.rd b/\F.wr b:=λb ⟨g,o,k,c⟩=>⟨(a.wr b ⟨g,YP,k,c⟩).2,(a.wr b ⟨g,YP,k,c⟩).1⟩;have l: ∀b,fi Wc W (f + 1) b-> ¬Wc f b:=λb ⟨g,o,k,c⟩ h=>by have:=a.lN _ _ _ h c;omega
 refine ⟨⟨λb h=>h.1,λb h=>(e b h).2,λb j h=> .inl ?_⟩,⟨λb h=>⟨(e b h).1,l b h⟩,λb j h m=> ?_⟩,⟨R,λb h=>⟨h,(e b h).1,l b h⟩,a.lN⟩⟩
 ·skip
  rw[a.cl];exact ⟨h.1,h.2.1,by have:=h.2.2;omega⟩
 ·rw[h.1]at m;exact d m.1
theorem FG.ym {c:aq}(h:FG E F w)(d:c.sub F)(f:c.ok)(e: ∀b j,c.cl b j->F.cl b j):FG E c w:=⟨f,λb i g=>h.low b i (e b i g),λb a=>h.dZ b (d.rd b a),λb a=>⟨(h.out b a).1,λl=>(h.out b a).2.1 (d.rd b l),λk m=>(h.out b a).2.2 k (e _ k m)⟩,h.live,h.pure.sub d⟩
end
end
section
open Classical
noncomputable def ui:D9:=match Try.f24.body with | some (.seq _ (.seq _ (.seq (.seq _ (.block _ (.loop c))) _)))=>c | _=> .skip
noncomputable def NS:D9:=match Try.f24.body with | some (.seq _ (.seq _ (.seq _ c)))=>c | _=> .skip
structure iT (E:Env)(Wc:Nat->Nat->Prop)(R s n W bN bW bK:Nat)(fw:r4)(wc:Array l9)(fu:Func)(cw:D9)(r:ca)(J:Nat->aU->World->Prop)(I:Nat->(Nat->Prop)->aU->World->aq->cH->Prop)(L:Nat->bC):Prop where
 on:E.on
 w0:0<W
 s0:0<s
 small:n + W<4611686018427387904
 fn:Try.prog.funcs[fw]? =S fu
 name:(fu.name== "runtime.NumGoroutine")=false
 body:fu.body=S cw
 ej: ∀f ρ ρ' v v',Ext ρ ρ'->v.heap.size<=v'.heap.size->(∀b,b<v.heap.size->v'.heap[b]? =v.heap[b]?)->J f ρ v->J f ρ' v'
 next: ∀f ρ v,J f ρ v->J (f + 1) ρ (dL ρ (Wc f) (fi Wc W (f + 1)) v)
 child: ∀f ρ v F A B val w,f<W->val.sz R=S (s * n)->J f ρ v->At E ρ (dL ρ (fi Wc W (f + 1)) (Wc f) v) (pM F Wc R s n W f A B) val w->I f (λ_=>False) ρ (dL ρ (fi Wc W (f + 1)) (Wc f) v) (pM F Wc R s n W f A B) val
 work: ∀f bF,f<W->bN<=bF->kn E oI (L f) gU r [] n W f bF bN bW bK fw wc fu cw (I f)
 stay: ∀f D ρ ρ' v v' F F' val,Ext ρ ρ'->v'.heap=v.heap->F.le F'->I f D ρ v F val->I f D ρ' v' F' val
 OG: ∀f D ρ v F val w,I f D ρ v F val->At E ρ v F val w->(∀j,j<n->j % W=f->D j)->L f F w
 keep: ∀f F w w1,dD F w w1->L f F w->L f F w1
 apart: ∀f ρ v,J f ρ v-> ∀g x,Wc g x->(∃b:Nat,ρ[b]? =S (x,BK.cells))/\ ∀b:Nat,b=bN\/b=bW\/b=bK->ρ[b]? ≠S (x,BK.cells)
section
variable {Lg:bC}{End:aq->Goroutine->World->Nat->Prop}{Wc:Nat->Nat->Prop}{n W bN bW bK bG:Nat}{wc:Array Value}{J:Nat->aU->World->Prop}{I:Nat->(Nat->Prop)->aU->World->aq->cH->Prop}{L:Nat->bC}
def ye (L:Nat->bC)(f:Nat):List bC:=(p9 f).map L
theorem BG (f:Nat):ye L (f + 1)=ye L f ++ [L f]:=by simp[ye,List.range_succ]
structure Az (v:World)(bN bW bK n W:Nat)(wk:l9):Prop where
 n:v.cell? ⟨bN,0,none⟩=S (G0 G1 n)
 w:v.cell? ⟨bW,0,none⟩=S (G0 G1 W)
 k:v.cell? ⟨bK,0,none⟩=S wk
theorem cy{a:Addr}{u:l9}(h:v.cell? a=S u):a.block<v.heap.size:=by unfold s7 at h;grind
theorem Az.keep(h:Az v i Z bK n W N)(e: ∀b,b<v.heap.size->w.heap[b]? =v.heap[b]?):Az w i Z bK n W N:=by
 have c: ∀a u,v.cell? a=S u->w.cell? a=S u:=λa u h=>by have:=e _ (cy h);unfold s7 at h ⊢;grind
 exact ⟨c _ _ h.n,c _ _ h.w,c _ _ h.k⟩
theorem xP (s:iT E Wc i Z n W bN bW bK f wc Y H x J I L){N:Nat}(e1:N=min n W){bk:Nat->Option E8}(b8: ∀b ob,bk b=some ob-> ∀g,¬Wc g b)
  (b9: ∀ρ v F w y,At E ρ v F (yU i (Z * n) bk) w->J N ρ v->p7 ⟨y,[]⟩ (.tmp 6)= G2 (some ⟨E.Wg,0,none⟩)->aa Try.prog E true (mC Try.prog E) Lg End 0 x (ye L N) (Ph.work false [] []) F (G (ak 24 y [.code NS]) l) w):
  ∀ (k c:Nat)(ρ:aU)(v:World)(F:aq)(w:World)(y:Array Value)(u7 u12 u13 u14 u15 u16 u17:Value),c + k=N->At E ρ v F (yU i (Z * n) bk) w->PF F Wc i Z n W c->J c ρ v->Az v bN bW bK n W (.func (.func f) #[] wc)->ρ[bG]? =some (E.Wg,.cells)->
   aB ρ #[G0 G1 n,G0 G1 W,.func (.func f) #[] wc,G2 (some ⟨bN,0,none⟩),G2 (some ⟨bW,0,none⟩),G2 (some ⟨bK,0,none⟩),G2 (some ⟨bG,0,none⟩),u7,G0 G1 n,G0 G1 W,G0 G1 N,G0 G1 c,u12,u13,u14,u15,u16,u17] y->
   aa Try.prog E true (mC Try.prog E) Lg End 0 x (ye L c) (Ph.work false (C5 k []) []) F (G (ak 24 y [.code ui,.inLoop ui,.inBlock 0,.code NS]) l) w:=by
 have g3:N<=W:=YP;have f9:N<=n:=YP;clear e1;intro k;induction k with
 | zero=>
  intro c ρ v F w y u7 u12 u13 u14 u15 u16 u17 hk a hp hJ a9 hG hv;obtain rfl:c=N:=YP;have P:ui=ui:=rfl;conv at P=>rhs;unfold ui;simp only[Try.f24]
  rw[P];refine aa.ah a λw a=> ?_;have g4: ¬ ((c:Int)<(c:Int)):=YP;refine aa.ej (Q:=λx' X=>x'= #[G0 G1 n,G0 G1 W,.func (.func f) #[] wc,G2 (some ⟨bN,0,none⟩),G2 (some ⟨bW,0,none⟩),G2 (some ⟨bK,0,none⟩),G2 (some ⟨bG,0,none⟩),u7,G0 G1 n,G0 G1 W,G0 G1 c,G0 G1 c,.bool false,u13,u14,u15,u16,u17]/\X.heap=v.heap) bh ⟨_,Try.func24⟩ Zc Zb YU YU a hv (λtp=> ?_) ?_
  ·go_wp2
   rfl
  ·rintro e2 x' y' X w' F' hE hF ⟨rfl,e3⟩ a hv;refine aa.ah a λw a=> ?_;refine aa.go a YR (λ_=>bH (hv.bool R)) λw a=> ?_;simp only[r5, ↓reduceIte];refine aa.go a YR (λ_=>fe R) λw a=> ?_;exact b9 e2 X F' w y' a (s.ej c _ _ _ _ hE YS (λb _=>by rw[e3]) hJ) ((hv.ev (t:=6) R).at (hE _ _ hG))
 | succ k ih=>
  intro c ρ v F w y u7 u12 u13 u14 u15 u16 u17 hk a hp hJ a9 hG hv;have g5:c<N:=YP;have M:c<W:=YP;have g0:=a.bQ.size;have P:ui=ui:=rfl;conv at P=>rhs;unfold ui;simp only[Try.f24]
  rw[P];refine aa.ah a λw a=> ?_;have e4:(c:Int)<(N:Int):=YP;have g6:(c:Int) + 1<9223372036854775808:=by have:=s.small;omega
  refine aa.ej (Q:=λx' X=>x'= #[G0 G1 n,G0 G1 W,.func (.func f) #[] wc,G2 (some ⟨bN,0,none⟩),G2 (some ⟨bW,0,none⟩),G2 (some ⟨bK,0,none⟩),G2 (some ⟨bG,0,none⟩),u7,G0 G1 n,G0 G1 W,G0 G1 N,G0 G1 c,.bool true,u13,u14,u15,u16,u17]/\X.heap=v.heap) bh ⟨_,Try.func24⟩ Zc Zb YU YU a hv (λtp=> ?_) ?_
  ·go_wp2
   rfl
  ·rintro g7 x1 y1 v1 w1 F1 b0 c1 ⟨rfl,u⟩ a c2;refine aa.ah a λw a=> ?_;refine aa.go a YR (λ_=>bH (c2.bool R)) λw a=> ?_;simp only[if_true];refine aa.dh a λw a=> ?_;refine aa.ah a λw a=> ?_;refine aa.aV a λw a=> ?_;refine aa.ah a λw a=> ?_;refine aa.ej (Q:=λx' X=>x'= #[G0 G1 n,G0 G1 W,.func (.func f) #[] wc,G2 (some ⟨bN,0,none⟩),G2 (some ⟨bW,0,none⟩),G2 (some ⟨bK,0,none⟩),G2 (some ⟨bG,0,none⟩),G2 (some ⟨v1.heap.size,0,none⟩),G0 G1 n,G0 G1 W,G0 G1 N,G0 G1 c,.bool true,G0 G1 c,u14,u15,u16,u17]/\X.heap=v1.heap.push (.cells #[G0 G1 c] 3)) bh ⟨_,Try.func24⟩ Zc Zb YU YU a c2 (λtp=> ?_) ?_
   ·have b1:=au u;clear u;go_wp2
    exact ⟨R,R⟩
   ·rintro g8 x2 y2 v2 w2 F2 b2 c3 ⟨rfl,D⟩ a e5;have e6:=b2 _ _ (b0 _ _ hG);have g9:v2.heap.size=v.heap.size + 1:=by rw[D,Array.size_push,u]
    have c4: ∀b,b<v.heap.size->v2.heap[b]? =v.heap[b]? :=YS;have e7:=s.ej c _ _ _ _ (b0.trans b2) YP c4 hJ;have c5:=a9.keep c4;have e8:=(hp.le c1).le c3;have g1:=aq.le_trans c1 c3;have c6:v2.cell? ⟨v1.heap.size,0,none⟩=some (G0 G1 c):=by unfold World.cell?;rw[D];simp
    refine aa.aC a λw a=> ?_;refine aa.ops (L:= [0]) (rest:= [1]) (ey:= #[_]) (Q:=λx' X=>x'= #[G0 G1 n,G0 G1 W,.func (.func f) #[] wc,G2 (some ⟨bN,0,none⟩),G2 (some ⟨bW,0,none⟩),G2 (some ⟨bK,0,none⟩),G2 (some ⟨bG,0,none⟩),G2 (some ⟨v1.heap.size,0,none⟩),G0 G1 n,G0 G1 W,G0 G1 N,G0 G1 c,.bool true,G0 G1 c,.func (.func 50) #[] #[G2 (some ⟨v1.heap.size,0,none⟩),G2 (some ⟨bN,0,none⟩),G2 (some ⟨bW,0,none⟩),G2 (some ⟨bK,0,none⟩)],u15,u16,u17]/\X.heap=v2.heap) bh ⟨_,Try.func24⟩ Zc 0 (.cons ⟨_,R,R,Zb,R⟩ .nil) Zb YU YU a e5 (λtp=> ?_) ?_
    ·have b1:=au u;have e9:=au D;clear u D;go_wp2
     rfl
    ·rintro q x3 y3 v3 w3 F3 b3 f0 ⟨rfl,a2⟩ a b4;have c7:=(b0.trans b2).trans b3;have c9:=b3 _ _ e6;have a3: ∀b,b<v2.heap.size->v3.heap[b]? =v2.heap[b]? :=YS;have a1:=s.ej c _ _ _ _ b3 YS a3 e7;have z:=c5.keep a3;have C:=e8.le f0;have d0:v3.cell? ⟨v1.heap.size,0,none⟩=some (G0 G1 c):=by unfold World.cell? at c6 ⊢;rw[a2];exact c6
     have a4:F3.cl i (Z * c):=by rw[C.cl];refine ⟨R,Nat.mul_lt_mul_of_pos_left YP s.s0,?_⟩;rw[Nat.mul_div_cancel_left _ s.s0,Nat.mod_eq_of_lt M];exact Nat.le_refl _
     have d1:=a.fg.ok.cl i _ a4;have f1:=a.fg.low i _ a4;have d2:=λA B hA hB=>xS C a.fg f1 d1 M (A:=A) (B:=B) hA hB;obtain ⟨d3,b5,f2⟩:=Bw C d1;obtain ⟨b6,d4,b7⟩:=(b4.ev (t:=14) R).fn;have a5: ∀ (b o:Nat) g,q[b]? =some (o,.num)-> ¬Wc g o:=λb o g m r=>by obtain ⟨b',a0⟩:=(s.apart c q v3 a1 g o r).1;have:=a.bQ.inj b b' o _ _ m a0 YQ YQ;grind
     have f3: ∀o g,q[v1.heap.size]? =some (o,.cells)-> ¬Wc g o:=λo g m r=>by obtain ⟨b',a0⟩:=(s.apart c ρ v hJ g o r).1;have h1:=a.bQ.inj _ b' o _ _ m (c7 _ _ a0) YQ YQ;grind
     have V: ∀b o g,b=bN\/b=bW\/b=bK->q[b]? =some (o,.cells)-> ¬Wc g o:=λb o g m a0 r=>(s.apart c q v3 a1 g o r).2 b m a0;rw[List.replicate_succ];refine DI (b₀:=A2 24) (a₀:=⟨y3,[]⟩) (i₀:=1) (rest₀:= []) (L:=L c) a.fg s.on (pM F3 Wc i Z n W c) (pN F3 Wc i Z n W c) (s.keep c) d2 d3 b5 R R (by simp[A2]) R ((b4.ev (t:=6) R).at c9) d4 ?_ ?_
     ·intro w4 A B k4 hA hB O;have p:=a.rely k4;obtain ⟨f4,h0,d5⟩:=d2 A B hA hB;have f5:=aG O.a;have h2:=aG O.b;have g2:=k4.keep.size;have a6:At E q (dL q (fi Wc W (c + 1)) (Wc c) v3) (pM F3 Wc i Z n W c A B) ⟨λ_ _=>none,λb=>if b=A then some (.cells #[G2 (some ⟨E.Wg,0,none⟩)] 122)else if b=B then some (.cells #[.func (.func 50) #[] b6] 1)else none,(yU i (Z * n) bk).sz⟩ w4:=by
       refine p.ex (λo h h'=> .inl ⟨h,h'⟩) (λo h=>⟨h,d5.wr o h⟩) (λb o m=> .inl ⟨a.fp.num b o m,λ⟨g,_,_,r⟩=>a5 b o g m r⟩) ⟨d5,λb j K=> ?_,λb m=> ?_,λb m=>⟨(p.fg.out b m).1,λhr=> ?_,λj K=> ?_⟩,p.fg.live,?_⟩ (p.cells.sub (λb j K=>by rw[C.cl];exact ⟨K.1,K.2.1,by have:=K.2.2;omega⟩) (λ_ _ _ _ h=>by cases h) λ_ _ h=>h) ?_
       ·rw[K.1];omega
       ·rcases m with m | rfl | rfl
        ·have:=a.fg.dZ b m.1;omega
        ·exact f5
        omega
       ·have e4:=(a.fg.out b m).1;rcases hr with hr | hr | hr
        ·exact (a.fg.out b m).2.1 hr.1
        ·omega
        ·omega
       ·refine (a.fg.out b m).2.2 j ?_;rw[C.cl];exact ⟨K.1,K.2.1,by have:=K.2.2;omega⟩
       ·exact ((a.fg.pure.add (Nat.le_trans a.fg.live.2.1 hA)).add (by have:=a.fg.live.2.1;omega)).sub f4
       ·intro b ob m;dsimp only at m;split at m
        ·rename_i e;subst e;cases m;exact ⟨.inr (.inl R),λhw=>by have:=a.fg.dZ b (C.wr _ ⟨c,Nat.le_refl _,M,hw⟩).2;omega,O.a⟩
        ·split at m
         ·rename_i e;subst e;cases m;exact ⟨.inr (.inr R),λhw=>by have:=a.fg.dZ b (C.wr _ ⟨c,Nat.le_refl _,M,hw⟩).2;omega,O.b⟩
         ·cases m
      exact xQ (Sp:=oI) (End:=gU) (I:=I c) s.on M s.small s.fn s.name s.body (s.work c v1.heap.size M (Nat.le_of_lt (by have:=cy a9.n;grind))) (s.stay c) (s.OG c) a6 (s.child c q v3 F3 A B _ w4 M (by simp[yU]) a1 a6)
       ⟨bz d0 λo m ⟨g,_,_,r⟩=>f3 o g m r,bz z.n λo m ⟨g,_,_,r⟩=>V bN o g (.inl R) m r,bz z.w λo m ⟨g,_,_,r⟩=>V bW o g (.inr (.inl R)) m r,bz z.k λo m ⟨g,_,_,r⟩=>V bK o g (.inr (.inr R)) m r⟩
       b7 YR (by simp[show B≠A by omega])
     ·intro w4 k4;have p:=a.rely k4;rw[<-BG];have d6:=b4.put (d:=some 15) VR.unit;simp only[r6,y9,z3]at d6;change aa Try.prog E true (mC Try.prog E) Lg End 0 x (ye L (c + 1)) (Ph.work false (C5 k []) []) (pN F3 Wc i Z n W c) (G (ak 24 (y3.setIfInBounds 15 (.tuple #[])) (.inRegion _ []::_)) l) w4;have d7:At E q (dL q (Wc c) (fi Wc W (c + 1)) v3) (pN F3 Wc i Z n W c) (yU i (Z * n) bk) w4:=
       p.ex (λo h h'=>⟨h,h'⟩) (λo h=>⟨h,b5.wr o h⟩) (λb o m=>⟨a.fp.num b o m,λr=>a5 b o c m r⟩) (p.fg.ym d3 b5 λb j K=>by rw[C.cl];exact ⟨K.1,K.2.1,by have:=K.2.2;omega⟩) (p.cells.sub (λb j K=>by rw[C.cl];exact ⟨K.1,K.2.1,by have:=K.2.2;omega⟩) (λ_ _ _ _ h=>by cases h) λ_ _ h=>h) (λb ob m=>⟨⟨(p.held b ob m).1,b8 b ob m c⟩,λ⟨g,_,_,r⟩=>b8 b ob m g r,(p.held b ob m).2.2⟩)
      have a7:Az (dL q (Wc c) (fi Wc W (c + 1)) v3) bN bW bK n W (.func (.func f) #[] wc):=⟨bz z.n λo m r=>V bN o c (.inl R) m r,bz z.w λo m r=>V bW o c (.inr (.inl R)) m r,bz z.k λo m r=>V bK o c (.inr (.inr R)) m r⟩;have d8:=s.next c q v3 a1;refine aa.aH d7 λw a=> ?_;refine aa.cd a λw a=> ?_;generalize d9:dL q (Wc c) (fi Wc W (c + 1)) v3=v4 at a a7 d8;obtain ⟨T,hT⟩: ∃T:Nat,T=c + 1:=⟨_,R⟩;have h3:IntKind.i64.wrap ((c:Int) + 1)=(T:Int):=by rw[A4];omega
      refine aa.ej (Q:=λx' X=>x'= #[G0 G1 n,G0 G1 W,.func (.func f) #[] wc,G2 (some ⟨bN,0,none⟩),G2 (some ⟨bW,0,none⟩),G2 (some ⟨bK,0,none⟩),G2 (some ⟨bG,0,none⟩),G2 (some ⟨v1.heap.size,0,none⟩),G0 G1 n,G0 G1 W,G0 G1 N,G0 G1 T,.bool true,G0 G1 c,.func (.func 50) #[] #[G2 (some ⟨v1.heap.size,0,none⟩),G2 (some ⟨bN,0,none⟩),G2 (some ⟨bW,0,none⟩),G2 (some ⟨bK,0,none⟩)],.tuple #[],G0 G1 T,u17]/\X.heap=v4.heap) bh ⟨_,Try.func24⟩ Zc Zb YU YU a d6 (λtp=> ?_) ?_
      ·clear u D a2 d9 hT;go_wp2
       rfl
      ·rintro f6 x5 y5 v5 w5 F5 e0 f7 ⟨rfl,a8⟩ a f8;refine aa.dw a λw a=> ?_;rw[<-P];subst hT;exact ih (c + 1) f6 v5 F5 w y5 _ _ _ _ _ _ _ YP a (f2.le f7) (s.ej (c + 1) _ _ _ _ e0 YS (λb _=>by rw[a8]) d8) (a7.keep λb _=>by rw[a8]) (e0 _ _ c9) f8
end
end
section
variable {Sh:Loc->Prop}{W R:Nat->Loc->Prop}{t u:Trace}
structure Sep (Sh:Loc->Prop)(W R:Nat->Loc->Prop):Prop where
 lN: ∀g h l,g≠h->W g l-> ¬R h l
 sub: ∀g l,W g l->R g l
 sh: ∀g l,R g l-> ¬Sh l
structure mh (Sh:Loc->Prop)(W R:Nat->Loc->Prop)(t:D4):Prop where
 quiet:Quiet Sh t
 plain: ∀ (i:Nat)(a:Touch),w7 t i=S a-> ¬Sh a.loc->a.kind= .plain\/t.heard i
 wr: ∀g l,W g l->Perm t g l
 rd: ∀g l,R g l->PermW t g l
 nr: ∀said,¬Race said t
def RP (a:Loc->Prop)(W c:Nat->Loc->Prop)(g:Nat)(b:u4):Prop:=
 b.g=g/\ ∀x,b.act.touch? =S x->(a x.loc/\x.kind≠ .plain/\(x.kind= .said->g=0))\/(¬a x.loc/\x.kind= .plain/\(W g x.loc\/(c g x.loc/\x.write=false)))
theorem mh.app (A:Sep Sh T R)(h:mh Sh T R t){g:Nat}(j: ∀f∈u,RP Sh T R g f):mh Sh T R (t ++ u):=by
 refine ⟨h.quiet.app λf c x z k=> ?_,λi a p k=> ?_,λm l o=>(h.wr m l o).app λf c b q e=> ?_,λm l o=>(h.rd m l o).app λf c b q e H=> ?_,λr=> ?_⟩
 ·rcases (j f c).2 x z with ⟨_,v,w⟩ | ⟨w,_⟩
  ·exact ⟨v,λe=>by rw[(j f c).1];exact w e⟩
  grind
 ·obtain ⟨x,z,s⟩:=q5 p;rcases getElem?_append_cases z with ⟨G,B⟩ | ⟨_,C⟩
  ·exact (h.plain i a (by rw[w8 B];exact s) k).imp id (A6 G).2
  ·rcases (j x C).2 a s with ⟨D,_⟩ | ⟨_,v,_⟩
   ·exact absurd D k
   grind
 ·rw[(j f c).1];refine j4 λn=> ?_;rcases (j f c).2 b q with ⟨k,_⟩ | ⟨_,_,d⟩
  ·exact A.sh m l (A.sub m l o) (e▸k)
  ·rcases d with d | ⟨d,_⟩
   ·exact A.lN m g l (λE=>n E.symm) o (e▸A.sub g _ d)
   ·exact A.lN m g l (λE=>n E.symm) o (e▸d)
 ·rw[(j f c).1];refine j4 λn=> ?_;rcases (j f c).2 b q with ⟨k,_⟩ | ⟨_,_,d⟩
  ·exact A.sh m l o (e▸k)
  ·rcases d with d | ⟨_,d⟩
   ·exact A.lN g m b.loc n d (e▸o)
   grind
 ·refine u1 (h.nr r) (λf c=>(j f c).1) (λi a p f c b q y=> ?_);rcases (j f c).2 b q with ⟨k,v,w⟩ | ⟨_,_,d⟩
  ·exact h.quiet.known k v w i a p y
  ·rcases d with d | ⟨d,F⟩
   ·exact h.wr g b.loc d i a p y.1
   ·exact h.rd g b.loc d i a p y.1 (y.2.2.1.resolve_right (by simp[F]))
theorem wE{a:Touch}(h:w7 t i=S a):i<t.size:=by obtain ⟨x,b,_⟩:=q5 h;grind
theorem mh.look (A:Sep Sh T R)(h:mh Sh T R t){g:Nat}(s:R g (.obj i))(C:k8 t g=0)(fn:r4)(pos:String):mh Sh T R (t ++ j5 g fn pos #[⟨.obj i,false,true⟩,⟨.obj i,true,true⟩]):=by
 have D:j5 g fn pos #[⟨.obj i,false,true⟩,⟨.obj i,true,true⟩]= #[{g,fn,pos,act:= .access ⟨.obj i,false,true⟩},{g,fn,pos,act:= .close i}]:=by simp[j5,j1]
 rw[D];have o: ∀d∈ #[({g,fn,pos,act:= .access ⟨.obj i,false,true⟩}:u4),{g,fn,pos,act:= .close i}],d.g=g/\ ∀x,d.act.touch? =S x->x=⟨.obj i,false,.atomic⟩:=λd c=>by
  simp only[q2,q4,p5,or_false]at c;rcases c with rfl | rfl
  ·exact ⟨rfl,λx f=>by simp[l8]at f;grind⟩
  ·exact ⟨rfl,λx f=>by cases f⟩
 have E:=A.sh g _ s;refine ⟨h.quiet.app λd c x f z=> ?_,λk a u z=> ?_,λp l q=>(h.wr p l q).app λd c b r e=> ?_,λp l q=>(h.rd p l q).app λd c b r e J=> ?_,λm=> ?_⟩
 ·grind
 ·obtain ⟨x,f,j⟩:=q5 u;rcases getElem?_append_cases f with ⟨B,v⟩ | ⟨B,F⟩
  ·exact (h.plain k a (by rw[w8 v];exact j) z).imp id (A6 B).2
  ·refine .inr ?_;have w:k=t.size:=by
    refine j4 λn=> ?_;have G:k=t.size + 1:=by have:=(r7.1 f).1;simp at this;omega
    subst G;have H:x.act= .close i:=by have:=f;simp at this;rw[<-this]
    rw[H]at j;cases j
   subst w;refine ⟨g,by simp[z6],?_⟩;rw[deaf_old (k9 _)];exact C
 ·rw[(o d c).1];refine j4 λn=> ?_;rw[(o d c).2 b r]at e;subst e;exact A.lN p g _ (λI=>n I.symm) q s
 ·grind
 ·refine u1 (h.nr m) (λd c=>(o d c).1) (λk a u d c b r y=> ?_);rw[(o d c).2 b r]at y;exact h.rd g _ s k a u y.1 (y.2.2.1.resolve_right YR)
def uh (t:D4)(l:Loc):Prop:= ∀i a,w7 t i=S a->a.loc≠l
theorem mh.tI {c:Loc->Prop}{k m:Nat->Loc->Prop}(h:mh Sh T R t)(n: ∀l,Sh l->c l)(j: ∀l,c l->Sh l\/uh t l)(o: ∀g l,k g l->T g l\/uh t l)(p: ∀g l,m g l->R g l\/uh t l):mh c k m t where
 quiet i op x hi hx d:=by
  rcases j _ d with b | b
  ·exact h.quiet i op x hi hx b
  ·exact absurd rfl (b i x (by rw[w8 hi];exact hx))
 plain i a f hn:=h.plain i a f λe=>hn (n _ e)
 wr g l d:=by
  rcases o g l d with b | b
  ·exact h.wr g l b
  ·exact λi a f e=>absurd e (b i a f)
 rd g l d:=by
  rcases p g l d with b | b
  ·exact h.rd g l b
  ·exact λi a f e _=>absurd e (b i a f)
 nr:=h.nr
theorem mh.fork {A B:Nat->Loc->Prop}(h:mh Sh T R t){x y:u4}(q:x.g=0/\x.act= .go i)(r:y.g=i/\y.act= .start)(C:k8 t 0=0)(D:k8 t i=0)
  (E: ∀g l,A g l->T g l\/(g=i/\T 0 l))(F: ∀g l,B g l->R g l\/(g=i/\R 0 l)):mh Sh A B (t ++ #[x,y]):=by
 have j: ∀d∈ #[x,y],∀b,d.act.touch? =S b->False:=by
  intro d c b f;simp only[q2,q4,p5,or_false]at c;rcases c with rfl | rfl
  ·rw[q.2]at f;cases f
  ·rw[r.2]at f;cases f
 have m: ∀ {k:Nat}{a:Touch},w7 (t ++ #[x,y]) k=S a->w7 t k=S a:=by
  intro k a n;obtain ⟨z,G,s⟩:=q5 n;rcases getElem?_append_cases G with ⟨_,u⟩ | ⟨_,H⟩
  ·rw[w8 u];exact s
  ·grind
 refine ⟨h.quiet.app λd c b f _=>(j d c b f).elim,λk a n I=>(h.plain k a (m n) I).imp id (A6 (wE (m n))).2,λg l v=> ?_,λg l v=> ?_,λp=> ?_⟩
 ·rcases E g l v with o | ⟨rfl,o⟩
  ·exact (h.wr g l o).app λd c b f _=>(j d c b f).elim
  ·exact λk a n e=>fork_knows q r C D (h.wr 0 l o k a (m n) e)
 ·rcases F g l v with o | ⟨rfl,o⟩
  ·exact (h.rd g l o).app λd c b f _ _=>(j d c b f).elim
  ·exact λk a n e w=>fork_knows q r C D (h.rd 0 l o k a (m n) e w)
 ·have e:t ++ #[x,y]=(t ++ #[x]) ++ #[y]:=by apply Array.ext';simp
  rw[e];refine u1 (g:=i) (u1 (g:=0) (h.nr p) (λd c=>YS) (λk a _ d c b f _=>(j d YS b f).elim))
   (λd c=>YS) (λk a _ d c b f _=>(j d YS b f).elim)
theorem mh.mute (h:mh Sh T R t)(E: ∀d∈u,d.act.touch? =none):mh Sh T R (t ++ u):=by
 have k: ∀d∈u,∀b,d.act.touch? =S b->False:=YS;have f: ∀ {i:Nat}{a:Touch},w7 (t ++ u) i=S a->w7 t i=S a:=by
  intro i a n;obtain ⟨z,x,p⟩:=q5 n;rcases getElem?_append_cases x with ⟨_,q⟩ | ⟨_,y⟩
  ·rw[w8 q];exact p
  ·grind
 refine ⟨h.quiet.app λd c b m _=>(k d c b m).elim,λi a n A=>(h.plain i a (f n) A).imp id (A6 (wE (f n))).2,λg l r=>(h.wr g l r).app λd c b m _=>(k d c b m).elim,λg l r=>(h.rd g l r).app λd c b m _ _=>(k d c b m).elim,λo=> ?_⟩;rintro ⟨i,j,s,⟨a,b,n,m,B⟩,C,D⟩;have v:=f (i:=i) (a:=a) n;have w:=f (i:=j) (a:=b) m;exact h.nr o ⟨i,j,s,⟨a,b,v,w,B⟩,λe=>C (hb_app u e),λe=>D (hb_app u e)⟩
theorem mh.knows (h:mh Sh T R t)(l:t.HandedOver): ∀i a,w7 t i=S a->a.loc.isMemory=true->Knows t 0 i\/(Sh a.loc/\a.kind= .atomic):=by
 intro i a c m;obtain ⟨x,d,n⟩:=q5 c;by_cases e:x.g=0
 ·exact .inl (e▸knows_own d)
 ·by_cases o:a.kind= .atomic
  ·by_cases p:Sh a.loc
   ·grind
   ·rcases h.plain i a c p with hp | hp
    ·grind
    ·obtain ⟨j,f,g⟩:=l i x.g (by simp[z6,d]) e ⟨a,c,m,.inr hp⟩;obtain ⟨y,k,b⟩:=m5.1 f;exact .inl ⟨j,y,k,b,.inr g⟩
  ·obtain ⟨j,f,g⟩:=l i x.g (by simp[z6,d]) e ⟨a,c,m,.inl o⟩;obtain ⟨y,k,b⟩:=m5.1 f;exact .inl ⟨j,y,k,b,.inr g⟩
end
section
open Go.ConcR (KK WgAt stA smA rd wr mk)
section
variable {E:Env}
def Wl (F:aq):Loc->Prop
 | .cell a=>F.wr a.block\/F.cl a.block a.off
 | .obj x=>F.wr x
 | _=>False
def Rl (F:aq):Loc->Prop
 | .cell a=>F.rd a.block\/F.cl a.block a.off
 | .obj x=>F.rd x
 | _=>False
def uv (E:Env)(l:Loc):Prop:= ∃a,l= .cell a/\E.S a.block
def WA (A:Nat->ff)(i:Nat)(l:Loc):Prop:=Wl (A i).F l
def ri (A:Nat->ff)(i:Nat)(l:Loc):Prop:=Rl (A i).F l\/ ∃c x,(A 0).r c=S x/\l= .obj x
variable {A:Nat->ff}
theorem Mem.sep(M:Mem E A w):Sep (uv E) (WA A) (ri A) where
 lN g h l hne hw b:=by
  cases l with
  | cell a=>
   rcases b with b | ⟨_,_,_,e⟩
   ·rcases hw with hw | hw<;>rcases b with b | b
    ·exact (M.apart g h hne).wr _ hw b
    ·exact (M.apart g h hne).GW _ _ b (M.eZ g _ hw)
    ·exact (M.apart g h hne).cl _ _ hw b
    ·exact (M.apart g h hne).cc _ _ hw b
   ·cases e
  | obj x=>
   rcases b with b | ⟨c,y,f,e⟩
   ·exact (M.apart g h hne).wr _ hw b
   ·cases e;exact (M.chan g c _ f).1 (M.eZ g _ hw)
  | _=>exact hw
 sub g l hw:=by
  cases l with
  | cell a=>exact .inl (hw.imp (M.eZ g _) id)
  | obj x=>exact .inl (M.eZ g _ hw)
  | _=>exact n9 hw
 sh g l b hs:=by
  obtain ⟨a,rfl,d⟩:=hs;rcases b with (b | b) | ⟨_,_,_,e⟩
  ·exact (M.out g _ d).1 b
  ·exact (M.out g _ d).2 _ b
  ·cases e
def AB (E:Env)(m:Bool)(F:aq)(e:p8):Prop:=
 (∀x,(j1 e).touch? =S x->(uv E x.loc/\x.kind≠ .plain/\(x.kind= .said->m=true))\/(¬uv E x.loc/\x.kind= .plain/\(Wl F x.loc\/(Rl F x.loc/\x.write=false))))/\ ∀a,e.loc≠ .mark (.release a)
theorem AB.ok{e:p8}(h:AB E (i==0) (A i).F e)(fn:r4)(pos:String):RP (uv E) (WA A) (ri A) i {g:=i,fn,pos,act:= .ofEvent e}:=by
 refine ⟨R,λx j=> ?_⟩;rcases h.1 x j with ⟨c,d,f⟩ | ⟨c,d,f⟩
 ·grind
 ·exact .inr ⟨c,d,f.imp id λ⟨a,b⟩=>⟨.inl a,b⟩⟩
theorem AB.mute{e:p8}(h:(j1 e).touch? =none)(b: ∀a,e.loc≠ .mark (.release a)):AB E m F e:=⟨λx c=>YS,b⟩
theorem AB.atomic{a:Addr}{b:Bool}(h:E.S a.block):AB E m F ⟨.cell a,b,true⟩:=by refine ⟨λx c=> .inl ?_,λ_=>YR⟩;cases b<;>simp[j1,l8]at c<;>subst c<;>exact ⟨⟨a,R,h⟩,YR,YR⟩
theorem AB.LF{j:aq}{e:p8}(h:ue (F.add n i) e)(q: ∀b,E.S b-> ¬ (F.add n i).rd b/\ ∀o,¬ (F.add n i).cl b o)(r: ∀b,(F.add n i).wr b->(F.add n i).rd b)(p:j=F.add n i):AB E m j e:=by
 subst p;cases h with
 | extern f=>exact .mute R YR
 | room=>exact .mute R YR
 | @obj x g=>refine ⟨λy c=> .inr ?_,YR⟩;simp[j1,l8]at c;subst c;exact ⟨λ⟨a,h,_⟩=>by simp at h,R,.inr ⟨g,R⟩⟩
 | @yY x g=>refine ⟨λy c=> .inr ?_,YR⟩;simp[j1,l8]at c;subst c;exact ⟨λ⟨a,h,_⟩=>by simp at h,R,.inl g⟩
 | @read a d=>refine ⟨λy c=> .inr ?_,YR⟩;simp[j1,l8]at c;subst c;exact ⟨λ⟨k,h,l⟩=>YS,R,.inr ⟨.inl d,R⟩⟩
 | @write a d=>refine ⟨λy c=> .inr ?_,YR⟩;simp[j1,l8]at c;subst c;exact ⟨λ⟨k,h,l⟩=>YS,R,.inl (.inl d)⟩
 | @put a d=>refine ⟨λy c=> .inr ?_,YR⟩;simp[j1,l8]at c;subst c;exact ⟨λ⟨k,h,l⟩=>YS,R,.inl (.inr d)⟩
theorem Cp{x:MemAct}(h:x.low n){a:Touch}(b:x.touch? =S a):a.loc.low n:=by
 cases x with
 | access e=>simp only[l8,s5]at b;subst b;exact h
 | mark m=>
  cases m<;>simp[l8]at b
  ·subst b;exact h
  ·subst b;exact h
 | _=>simp[l8]at b
theorem dg(h: ∀b∈t,b.act.low n){l:Loc}(f: ¬l.low n):uh t l:=by intro i a g e;obtain ⟨b,c,d⟩:=q5 g;exact f (e▸Cp (h b (o6 c)) d)
variable {D:ff}
theorem Ao(h:D.r=(A i).r): ∀c x,(l7 A i D 0).r c=S x->(A 0).r c=S x\/n<=x:=λc x a=>by
 by_cases e:(0:Nat)=i
 ·subst e;rw[h9,h]at a;grind
 ·rw[j3 _ _ e]at a;grind
theorem mP(z:mh (uv E) (WA A) (ri A) t)(d: ∀v∈t,v.act.low n)(j: ∀b,(A i).F.wr b->(A i).F.rd b)(B:Mem E (l7 A i D) w)
  (m: ∀b,(D.F.wr b->(A i).F.wr b\/n<=b)/\(D.F.rd b->(A i).F.rd b\/n<=b)/\ ∀k,D.F.cl b k->(A i).F.cl b k\/(A i).F.wr b\/n<=b)(C: ∀c x,(l7 A i D 0).r c=S x->(A 0).r c=S x\/n<=x)(F: ∀e∈o,AB E (i==0) D.F e)(y:r4)(p:String):
  mh (uv E) (WA (l7 A i D)) (ri (l7 A i D)) (t ++ j5 i y p o):=by
 have G:mh (uv E) (WA (l7 A i D)) (ri (l7 A i D)) t:=by
  have I: ∀ {b k:Nat}{s:Option Nat},n<=b-> ¬ (Loc.cell ⟨b,k,s⟩).low n:=λh r=>by simp only[Loc.low]at r;omega
  have f: ∀ {a:Addr},n<=a.block-> ¬ (Loc.cell a).low n:=λh r=>by simp only[Loc.low]at r;omega
  refine z.tI (λ_ h=>h) (λ_ h=> .inl h) (λg l h=> ?_) (λg l h=> ?_)
  ·by_cases q:g=i
   ·subst q;unfold WA at h;rw[h9]at h;cases l with
    | cell a=>
     rcases h with h | h
     ·rcases (m a.block).1 h with h | h
      ·exact .inl (.inl h)
      ·exact .inr (dg d (f h))
     ·rcases (m a.block).2.2 _ h with h | h | h
      ·exact .inl (.inr h)
      ·exact .inl (.inl h)
      ·exact .inr (dg d (f h))
    | obj x=>
     rcases (m x).1 h with h | h
     ·exact .inl h
     ·exact .inr (dg d Zg)
    | _=>exact n9 h
   ·unfold WA at h;rw[j3 _ _ q]at h;exact .inl h
  ·rcases h with h | ⟨c,x,H,rfl⟩
   rotate_left
   ·rcases C c x H with h | h
    ·exact .inl (.inr ⟨c,x,h,R⟩)
    ·exact .inr (dg d Zg)
   by_cases q:g=i
   ·subst q;rw[h9]at h;cases l with
    | cell a=>
     rcases h with h | h
     ·rcases (m a.block).2.1 h with h | h
      ·exact .inl (.inl (.inl h))
      ·exact .inr (dg d (f h))
     ·rcases (m a.block).2.2 _ h with h | h | h
      ·exact .inl (.inl (.inr h))
      ·exact .inl (.inl (.inl (j _ h)))
      ·exact .inr (dg d (f h))
    | obj x=>
     rcases (m x).2.1 h with h | h
     ·exact .inl (.inl h)
     ·exact .inr (dg d Zg)
    | _=>exact n9 h
   ·rw[j3 _ _ q]at h;exact .inl (.inl h)
 refine G.app B.sep (g:=i) λv u=> ?_;obtain ⟨e,J,rfl⟩:=l6 u;refine AB.ok (A:=l7 A i D) ?_ y p;rw[h9];grind
theorem Iy(h: ∀b∈t,b.act.low n)(d:n<=W)(f: ∀e∈o,(j1 e).low W)(g:r4)(c:String): ∀b∈t ++ MemOp.ofEvents i g c o,b.act.low W:=
 z7 (λb a=>MemAct.low_mono d (h b a)) λb a=>by obtain ⟨e,j,rfl⟩:=l6 a;grind
def Hand (a:Nat)(t:D4):Prop:= ∀k g,t.g? k=S g->g≠0->t.counts k->(∃j,t.g? j=S 0/\C9 t k j)\/a<=g
theorem Hand.app{u:Trace}(h:Hand n t)(y: ∀a∈u,a.g=0\/n<=a.g\/a.act.touch? =none):Hand n (t ++ u):=by
 intro i g k c q;obtain ⟨x,l,d⟩:=q;obtain ⟨a,b,r⟩:=q5 l;rcases getElem?_append_cases b with ⟨m,o⟩ | ⟨_,p⟩
 ·rcases h i g (by simpa[Trace.g?,getElem?_append_old m]using k) c ((counts_old m).1 ⟨x,l,d⟩)with ⟨j,e,s⟩ | h
  ·have f:j<t.size:=by unfold Trace.g? at e;obtain ⟨z,v,_⟩:=m5.1 e;exact lt_size_of_getElem? v
   exact .inl ⟨j,by simpa[Trace.g?,getElem?_append_old f]using e,hb_app u s⟩
  omega
 ·have w:a.g=g:=by simpa[Trace.g?,b]using k
  grind
end
end
section
open Go.ConcR (KK WgAt stA smA rd wr mk)
def Ph.nR:Ph->List Ak
 | .work _ _ s=>s
 | _=> []
def Ph.db:Ph->List (List Ak)
 | .work _ a _=>a
 | _=> []
def Ph.nL:Ph->Nat
 | .work true _ _=>1
 | _=>0
def Ph.gz:Ph->Nat
 | .work _ _ _ | .tail=>1
 | _=>0
def Ph.last:Ph->Prop
 | .en | .eo | .cu=>True
 | _=>False
def dN (n:Nat)(A:Nat->ff):iR:=λi=>if i<n then (A i).ph.nR else ((A 0).ph.db[i - n]?).getD []
def Vn (n0 n:Nat)(A:Nat->ff):Nat:=B1 n (λi=>if n0<=i then (A i).ph.gz else 0) + (A 0).ph.nL
def fG (a n:Nat)(A:Nat->ff):Prop:= ∀i,a<=i->i<n-> ¬ (A i).ph.last
inductive po (E:Env)(n0 n:Nat)(A:Nat->ff)(w:World):Prop
 | plain:(A 0).ph≠ .gO->(∀b,(A 0).ph= .load b->Vn n0 n A<=b)->(∀b,(A 0).ph= .wP b->Vn n0 n A<=b/\0<b)->((A 0).ph= .gD\/(A 0).ph= .joined->Vn n0 n A=0)->WgAt E.ty E.Wg w (Vn n0 n A * KK) 0->fG n0 n A->po E n0 n A w
 | wait:(A 0).ph= .gO->1<=Vn n0 n A->WgAt E.ty E.Wg w (Vn n0 n A * KK + 1) 0->fG n0 n A->po E n0 n A w
 | fx (k:Nat):(A 0).ph= .gO->Vn n0 n A=0->WgAt E.ty E.Wg w 1 0->n0<=k->k<n->(A k).ph= .en\/(A k).ph= .eo->(∀j,n0<=j->j<n->(A j).ph.last->j=k)->po E n0 n A w
 | cu (k:Nat):(A 0).ph= .gO->Vn n0 n A=0->WgAt E.ty E.Wg w 0 0->n0<=k->k<n->(A k).ph= .cu->(∀j,n0<=j->j<n->(A j).ph.last->j=k)->po E n0 n A w
 | post:(A 0).ph= .gO->Vn n0 n A=0->WgAt E.ty E.Wg w 0 1->fG n0 n A->po E n0 n A w
structure Inv (P:o8)(E:Env)(End:aq->j0->World->Nat->Prop)(n0:Nat)(gs:Array j0)(w:World)(t:D4)(A:Nat->ff)(C:Nat->Bool):Prop where
 eu:1<=n0
 le:n0<=gs.size
 sit: ∀ (i:Nat) g,gs[i]? =S g->xf P E End i (A i) (k8 t i) g w
 MR: ∀i,gs.size<=i->(A i).F= .none
 hear: ∀i,gs.size<=i->k8 t i=0
 old: ∀i,0<i->i<n0->(A i).ph= .gone/\(A i).F= .none
 main:(A 0).ph.ck=false
 wk: ∀i,n0<=i->i<gs.size->(∃s,(A i).ph= .work false [] s)\/(A i).ph.ck=true
 ok:E.ok w
 mem:Mem E A w
 led:mh (uv E) (WA A) (ri A) t
 low: ∀op∈t,op.act.low w.heap.size
 gl: ∀op∈t,op.g<gs.size
 hand:Hand n0 t
 rel: ∀i,n0<=i->i<gs.size->(A i).ph.ck=true-> ∃q,D5 (stA E.Wg) t i q
 norel: ∀a,D6 a t
 wg:E.on->po E n0 gs.size A w
 Cc:E.on-> ∀g,gs[0]? =S g->g.status= .blocked->(A 0).ph= .gO-> ¬WgAt E.ty E.Wg w 0 1
 chan: ∀c x,(A 0).r c=S x-> ∃a b,w.heap[x]? =S (.chan 0 #[] (C c) a b false)
 inj: ∀c c' x,(A 0).r c=S x->(A 0).r c'=S x->c=c'
 pB: ∀i,i<gs.size-> ∀c x,(A i).r c=S x->(A 0).r c=S x
 Ev: ∀c,(A 0).r c= .none->C c=false
 lR:eG (dN gs.size A,λc=>C c=true)
 one:One (dN gs.size A)
 once:iA (dN gs.size A)
 zr:Jo (dN gs.size A,λc=>C c=true)
 nb: ∀ (i j:Nat) gi gj x v z z' q,gs[i]? =S gi->gs[j]? =S gj->gi=j8 (bare gi) #[n5 x v z] .send->gj=j8 (bare gj) #[n8 x z'] (.recv q)->False
 Lu: ∀i,n0<=i->i<gs.size->(A 0).lg[i - n0]? =S (A i).L
 It:(A 0).lg.length + n0=gs.size
 ra: ∀i,n0<=i->i<gs.size-> ∀F w w1,dD F w w1->(A i).L F w->(A i).L F w1
 left: ∀i,n0<=i->i<gs.size->(A i).ph.ck=true->(A i).L (A i).F w
 few:gs.size + (A 0).ph.db.length<=n0 + 1000000
theorem im {o b:j0}{c:Array E5}{d:A1}(h:o4 P g J w o=j8 b c d):o=o4 P g J w o:=by
 have a:(o4 P g J w o).status= .blocked:=by rw[h];rfl
 revert a;unfold o4;split
 ·unfold o0;split
  ·dsimp only;split
   ·intro a;cases a
   ·intro _;rfl
  ·intro a;cases a
  ·intro a;cases a
  ·intro _;rfl
 simp
theorem ju {o:j0}(h:(o4 P g J w o).status= .blocked):o=o4 P g J w o:=by
 revert h;unfold o4;split
 ·unfold o0;split
  ·dsimp only;split
   ·intro a;cases a
   ·intro _;rfl
  ·intro a;cases a
  ·intro a;cases a
  ·intro _;rfl
 simp
theorem dB{f:j0->j0}(h:((c.map f).setIfInBounds i g)[n]? =S J):(n=i/\J=g/\i<c.size)\/(n≠i/\ ∃p,c[n]? =S p/\J=f p):=by grind
variable {A:Nat->ff}{D:ff}
theorem gL(b:D.ph.nR=(A i).ph.nR)(c:D.ph.db=(A i).ph.db):dN n (l7 A i D)=dN n A:=by
 funext j;unfold dN;have e: ∀k,(l7 A i D k).ph.nR=(A k).ph.nR/\(l7 A i D k).ph.db=(A k).ph.db:=λk=>by
  by_cases a:k=i
  ·subst a;rw[h9];exact ⟨b,c⟩
  ·rw[j3 _ _ a];exact ⟨R,R⟩
 grind
theorem Inv.OR (I:Inv P E a n c w t A C)(hi:c[i]? =S g)
  (hr:i≠0->D.r=(A i).r)(V: ∀k x,(A 0).r k=S x->(l7 A i D 0).r k=S x)(a6: ∀k x,(l7 A i D 0).r k=S x-> ∃K b,v.heap[x]? =S (.chan 0 #[] (C k) K b false))(W: ∀k X x,(l7 A i D 0).r k=S x->(l7 A i D 0).r X=S x->k=X)(Y: ∀k,(l7 A i D 0).r k= .none->C k=false)(b5:D.lg=(A i).lg)(hL:D.L=(A i).L)(G:D.ph.nR=(A i).ph.nR)(H:D.ph.db=(A i).ph.db)(Z:E.ok v)(a1: ∀j,j≠i->dD (A j).F w v)
  (b6: ∀k x,(A 0).r k=S x->v.heap[x]? =w.heap[x]?)(hM:Mem E (l7 A i D) v)
  (a2:mh (uv E) (WA (l7 A i D)) (ri (l7 A i D)) (t ++ MemOp.ofEvents i g.frame.fn g.frame.place o))(a7: ∀e∈o,∀K,e.loc≠ .mark (.release K))(a8:w.heap.size<=v.heap.size)(a9: ∀e∈o,(j1 e).low v.heap.size)(b7:i=0\/n<=i\/ ∀e∈o,(j1 e).touch? =none)
  (a3:xf P E a i D (l4 (k8 t i) o) J v)(b8:i=0->D.ph.ck=false)(b9:n<=i->(∃s,D.ph= .work false [] s)\/D.ph.ck=true)(b3:0<i->i<n->D.ph= .gone/\D.F= .none)
  (b4:n<=i->D.ph.ck=true-> ∃q,D5 (stA E.Wg) (t ++ MemOp.ofEvents i g.frame.fn g.frame.place o) i q)(c1:E.on->po E n c.size (l7 A i D) v)
  (O:E.on-> ∀b0,((c.map (o4 P g J v)).setIfInBounds i J)[0]? =S b0->b0.status= .blocked->(l7 A i D 0).ph= .gO-> ¬WgAt E.ty E.Wg v 0 1)
  (b1:n<=i->D.ph.ck=true->D.L D.F v)(c2: ∀b cs sh,J≠j8 b cs sh):
  Inv P E a n ((c.map (o4 P g J v)).setIfInBounds i J) v (t ++ MemOp.ofEvents i g.frame.fn g.frame.place o) (l7 A i D) C:=by
 have f:((c.map (o4 P g J v)).setIfInBounds i J).size=c.size:=YR;have c3:i<c.size:=YS;have u: ∀T∈MemOp.ofEvents i g.frame.fn g.frame.place o,T.g=i:=λT m=>by obtain ⟨e,_,rfl⟩:=l6 m;rfl
 have L:(l7 A i D 0).lg=(A 0).lg:=by
  by_cases h:(0:Nat)=i
  ·subst h;assumption
  ·rw[j3 _ _ h]
 have a4:(l7 A i D 0).ph.db=(A 0).ph.db:=by
  by_cases h:(0:Nat)=i
  ·subst h;assumption
  ·rw[j3 _ _ h]
 have a5: ∀j,(l7 A i D j).L=(A j).L:=λj=>by
  by_cases h:j=i
  ·subst h;rw[h9];exact hL
  ·rw[j3 _ _ h]
 have M: ∀k x,(A 0).r k=S x->Cy w x->Cy v x:=λk x y ⟨K,b,X,d,e,h⟩=>⟨K,b,X,d,e,YS⟩;constructor
 ·exact I.eu
 ·rw[f];exact I.le
 ·intro j b0 B;rcases dB B with ⟨rfl,rfl,_⟩ | ⟨Q,p,hp,rfl⟩
  ·rw[h9,Deaf_own];exact a3
  ·rw[j3 _ _ Q,Deaf_other t (λe=>Q e.symm) _ u];have N:j<c.size:=YS;refine (I.sit j p hp).other ⟨(a1 j Q).sub (A j).kh,Z⟩ (λk x y ho=> ?_) ?_
   ·obtain ⟨K,b,X,d,e,h⟩:=M k x (I.pB j N k x y) ho;grind
   ·unfold o4;split
    ·simp
    ·exact .inl ⟨R,λk x y ho=>M k x (I.pB j N k x y) ho⟩
 ·intro j B;rw[f]at B;rw[j3 _ _ YP];exact I.MR j B
 ·intro j B;rw[f]at B;rw[Deaf_other t YP _ u];exact I.hear j B
 ·intro j r l;by_cases h:j=i
  ·subst h;rw[h9];grind
  ·rw[j3 _ _ h];exact I.old j r l
 ·by_cases h:(0:Nat)=i
  ·subst h;rw[h9];grind
  ·rw[j3 _ _ h];exact I.main
 ·intro j r l;rw[f]at l;by_cases h:j=i
  ·subst h;rw[h9];grind
  ·rw[j3 _ _ h];exact I.wk j r l
 ·exact Z
 ·exact hM
 ·exact a2
 ·exact Iy I.low a8 a9 _ _
 ·intro T m;rw[f];rcases Array.mem_append.1 m with h | h
  ·exact I.gl T h
  grind
 ·refine I.hand.app λT m=> ?_;obtain ⟨e,he,rfl⟩:=l6 m;grind
 ·intro j r l F;rw[f]at l;by_cases h:j=i
  ·subst h;rw[h9]at F;grind
  ·rw[j3 _ _ h]at F;obtain ⟨q,hq⟩:=I.rel j r l F;exact ⟨q,hq.appOther u (λe=>h e.symm)⟩
 ·intro a0;refine (I.norel a0).app λT m e=> ?_;obtain ⟨x,y,rfl⟩:=l6 m;exact a7 x y _ (n6 e)
 ·grind
 ·exact O
 ·exact a6
 ·exact W
 ·intro j B k x y;rw[f]at B;by_cases h:j=i
  ·subst h;by_cases r:j=0
   ·grind
   ·rw[h9,hr r]at y;exact V k x (I.pB j B k x y)
  ·rw[j3 _ _ h]at y;exact V k x (I.pB j B k x y)
 ·exact Y
 ·rw[f,gL G H];exact I.lR
 ·rw[f,gL G H];exact I.one
 ·rw[f,gL G H];exact I.once
 ·rw[f,gL G H];exact I.zr
 ·intro K b ga gb x c4 z z' q ha hb l F;rcases dB ha with ⟨rfl,rfl,_⟩ | ⟨_,p,hp,rfl⟩
  ·grind
  ·rcases dB hb with ⟨rfl,rfl,_⟩ | ⟨_,p',b2,rfl⟩
   ·grind
   ·have e1:=im l;have e2:=im F;rw[<-e1]at l;rw[<-e2]at F;exact I.nb K b p p' x c4 z z' q hp b2 l F
 ·intro j r l;rw[f]at l;rw[L,a5];exact I.Lu j r l
 ·rw[L,f];exact I.It
 ·intro j r l;rw[f]at l;rw[a5];exact I.ra j r l
 ·intro j r l F;rw[f]at l;by_cases h:j=i
  ·subst h;rw[h9]at F ⊢;grind
  ·rw[j3 _ _ h]at F ⊢;exact I.ra j r l _ _ _ (a1 j h) (I.left j r l F)
 ·rw[f,a4];exact I.few
theorem Inv.own (I:Inv P E a n c w t A C)(Y:c[i]? =S g)
  (Z:D.r=(A i).r)(z:D.lg=(A i).lg)(hL:D.L=(A i).L)(B:D.ph.nR=(A i).ph.nR)(F:D.ph.db=(A i).ph.db)(G:E.ok v)(H: ∀j,j≠i->dD (A j).F w v)
  (l: ∀y x,(A 0).r y=S x->v.heap[x]? =w.heap[x]?)(hM:Mem E (l7 A i D) v)
  (m:mh (uv E) (WA (l7 A i D)) (ri (l7 A i D)) (t ++ j5 i g.frame.fn g.frame.place o))(K: ∀e∈o,∀a0,e.loc≠ .mark (.release a0))(L:w.heap.size<=v.heap.size)(M: ∀e∈o,(j1 e).low v.heap.size)(N:i=0\/n<=i\/ ∀e∈o,(j1 e).touch? =none)
  (p:xf P E a i D (l4 (k8 t i) o) J v)(O:i=0->D.ph.ck=false)(Q:n<=i->(∃s,D.ph= .work false [] s)\/D.ph.ck=true)(r:0<i->i<n->D.ph= .gone/\D.F= .none)
  (u:n<=i->D.ph.ck=true-> ∃q,D5 (stA E.Wg) (t ++ j5 i g.frame.fn g.frame.place o) i q)(T:E.on->po E n c.size (l7 A i D) v)
  (f:E.on-> ∀W,((c.map (o4 P g J v)).setIfInBounds i J)[0]? =S W->W.status= .blocked->(l7 A i D 0).ph= .gO-> ¬WgAt E.ty E.Wg v 0 1)
  (k:n<=i->D.ph.ck=true->D.L D.F v)(V: ∀b cs sh,J≠j8 b cs sh):
  Inv P E a n ((c.map (o4 P g J v)).setIfInBounds i J) v (t ++ j5 i g.frame.fn g.frame.place o) (l7 A i D) C:=by
 have d:(l7 A i D 0).r=(A 0).r:=by
  by_cases h:(0:Nat)=i
  ·subst h;assumption
  ·rw[j3 _ _ h]
 exact I.OR Y (λ_=>Z) YS (by rw[d];exact λy x X=>by rw[l y x X];exact I.chan y x X) (by rw[d];exact I.inj) (by rw[d];exact I.Ev) z hL B F G H l hM m K L M N p O Q r u T f k V
end
section
open Go.ConcR (KK WgAt stA smA rd wr mk)
section
variable {End:aq->Goroutine->World->Nat->Prop}{n0:Nat}{gs gs':Array Goroutine}{w':World}{A A':Nat->ff}
theorem sZ (F:aq)(w:World)(d:Nat):dD F w (w.at d):=⟨λ_ _=>rfl,k9 _,λ_ c _ f h=>⟨c,f,h⟩,R,λ_ _ c _ _ _ h=>⟨c,h,R,R⟩⟩
variable {A:Nat->ff}
theorem Mem.at (M:Mem E A w)(d:Nat):Mem E A (w.at d):=⟨M.eZ,M.low,M.lr,M.own,M.apart,M.out,M.chan,M.wg,M.slow,M.pure,M.wT,M.tY,M.vG⟩
variable {D:ff}
theorem Mem.same (M:Mem E A w)(d:D.F=(A i).F)(f:D.r=(A i).r):Mem E (l7 A i D) w:=by
 have e: ∀k,(l7 A i D k).F=(A k).F/\(l7 A i D k).r=(A k).r:=λk=>by
  by_cases a:k=i
  ·subst a;rw[h9];grind
  ·rw[j3 _ _ a];simp
 exact ⟨λk=>by rw[(e k).1];exact M.eZ k,λk=>by rw[(e k).1];exact M.low k,λk=>by rw[(e k).1];exact M.lr k,λk=>by rw[(e k).1];exact M.own k,λk l=>by rw[(e k).1,(e l).1];exact M.apart k l,
  λk=>by rw[(e k).1];exact M.out k,λk=>by rw[(e k).1,(e 0).2];exact M.chan k,M.wg,M.slow,λk=>by rw[(e k).1];exact M.pure k,M.wT,λc b=>by rw[(e 0).2];exact M.tY c b,M.vG⟩
theorem po.at {n:Nat}(h:po E n0 n A w)(d:Nat):po E n0 n A (w.at d):=by
 cases h with
 | plain a b c e f g=>exact .plain a b c e f g
 | wait a b c e=>exact .wait a b c e
 | fx k a b c e f g i=>exact .fx k a b c e f g i
 | cu k a b c e f g i=>exact .cu k a b c e f g i
 | post a b c e=>exact .post a b c e
theorem Inv.at (I:Inv P E End n0 gs w t A C)(d:Nat):Inv P E End n0 gs (w.at d) t A C where
 eu:=I.eu
 le:=I.le
 sit i g hg:=(I.sit i g hg).other ⟨sZ _ _ _,I.ok⟩ (λ_ x _ h=>by obtain ⟨a,b,c,e,f,h⟩:=h;exact ⟨a,b,false,c,e,f,h⟩) (.inl ⟨R,λ_ _ _ h=>h⟩)
 MR:=I.MR
 hear:=I.hear
 old:=I.old
 main:=I.main
 wk:=I.wk
 ok:=I.ok
 mem:=I.mem.at d
 led:=I.led
 low:=I.low
 gl:=I.gl
 hand:=I.hand
 rel:=I.rel
 norel:=I.norel
 wg h:=(I.wg h).at d
 Cc:=I.Cc
 chan:=I.chan
 inj:=I.inj
 pB:=I.pB
 Ev:=I.Ev
 lR:=I.lR
 one:=I.one
 once:=I.once
 zr:=I.zr
 nb:=I.nb
 Lu:=I.Lu
 It:=I.It
 ra:=I.ra
 left i h0 h1 h2:=I.ra i h0 h1 _ _ _ (sZ _ _ _) (I.left i h0 h1 h2);few:=I.few
def trees (n:Nat)(A:Nat->ff):List Tr:=(p9 n).map λi=>(A i).T
theorem su(h:i<n):trees n (l7 A i D)=(trees n A).set i D.T:=by
 apply z8;intro j;unfold trees;rw[z9];simp only[List.getElem?_map,List.length_map,List.length_range];by_cases a:i=j
 ·subst a;simp[h,h9]
 ·rw[if_neg a];rcases Nat.lt_or_ge j n with b | b
  ·simp[b,j3 A D (Ne.symm a)]
  grind
theorem sr(h:i<n):(trees n A)[i]? =S (A i).T:=by simp[trees,h]
theorem fl(h:i<n)(a:Tr.lt D.T (A i).T):LL (trees n (l7 A i D)) (trees n A):=by rw[su h];exact LL.set (sr h) a
def runs (a:Array j0):Nat:=a.toList.countP λg=>g.status== .running
inductive Gr (gs':Array j0)(A':Nat->ff)(gs:Array j0)(A:Nat->ff):Prop
 | db:(A' 0).ph.db.length<(A 0).ph.db.length->Gr gs' A' gs A
 | tree:(A' 0).ph.db.length=(A 0).ph.db.length->z4 LL (trees gs'.size A') (trees gs.size A)->Gr gs' A' gs A
 | run:(A' 0).ph.db.length=(A 0).ph.db.length->trees gs'.size A'=trees gs.size A->runs gs'<runs gs->Gr gs' A' gs A
theorem CR(h: ∀k,(A' k).ph=(A k).ph):Vn n0 n A'=Vn n0 n A:=by unfold Vn;grind
theorem jI(h: ∀k,(A' k).ph=(A k).ph)(k:fG i n A):fG i n A':=λa b c d=>k a b c (h a▸d)
theorem po.same(h:po E n0 n A w)(c: ∀k,(A' k).ph=(A k).ph)(o:w'.heap[E.Wg]? =w.heap[E.Wg]?):po E n0 n A' w':=by
 have q:=CR (n0:=n0) (n:=n) c;have g: ∀ {l m:Int},WgAt E.ty E.Wg w l m->WgAt E.ty E.Wg w' l m:=λh=>o.trans h;cases h with
 | plain d e b a f i=>exact .plain YS YS YS YS YS (jI c i)
 | wait d e b a=>exact .wait YS YP YS (jI c a)
 | fx k d e b a f i p=>exact .fx k YS YP (g b) a f YS λj=>YS
 | cu k d e b a f i p=>exact .cu k YS YP (g b) a f YS λj=>YS
 | post d e b a=>exact .post YS YP (g b) (jI c a)
theorem jq(h:D.ph=(A i).ph)(k:Nat):(l7 A i D k).ph=(A k).ph:=by
 by_cases a:k=i
 ·subst a;rw[h9];exact h
 ·rw[j3 _ _ a]
theorem Inv.oS (I:Inv P E a n c w t A C)(k:i=0->J.status≠ .blocked)(l:(l7 A i D 0).ph=(A 0).ph)(m:E.on->(A 0).ph= .gO-> ¬WgAt E.ty E.Wg w 0 1-> ¬WgAt E.ty E.Wg v 0 1):
  E.on-> ∀o,((c.map (o4 P g J v)).setIfInBounds i J)[0]? =S o->o.status= .blocked->(l7 A i D 0).ph= .gO-> ¬WgAt E.ty E.Wg v 0 1:=by
 intro j o q b d;rcases dB q with ⟨h,rfl,_⟩ | ⟨_,p,f,rfl⟩
 ·grind
 ·have e:=ju b;rw[<-e]at b;rw[l]at d;exact m j d (I.Cc j p f b d)
theorem Inv.quiet (I:Inv P E End n c w t A C)(V:c[i]? =S g)
  (d:D.ph=(A i).ph)(z:(A i).ph≠ .gone)(W:D.r=(A i).r)(B:D.lg=(A i).lg)(O:D.L=(A i).L)(F:E.ok v)(G: ∀j,j≠i->dD (A j).F w v)
  (H: ∀X x,(A 0).r X=S x->v.heap[x]? =w.heap[x]?)(Y:Mem E (l7 A i D) v)
  (r:mh (uv E) (WA (l7 A i D)) (ri (l7 A i D)) (t ++ j5 i g.frame.fn g.frame.place o))(K: ∀e∈o,∀a,e.loc≠ .mark (.release a))(L:w.heap.size<=v.heap.size)(M: ∀e∈o,(j1 e).low v.heap.size)(Q:E.on->v.heap[E.Wg]? =w.heap[E.Wg]?)
  (T:eE P E End i D (l4 (k8 t i) o) J v)(l:Up J)(k:(A i).ph.ck=true->v=w/\D.F=(A i).F/\ ∀e∈o,(j1 e).touch? =none):
  Inv P E End n ((c.map (o4 P g J v)).setIfInBounds i J) v (t ++ j5 i g.frame.fn g.frame.place o) (l7 A i D) C:=by
 have m:i<c.size:=YS;have s:=λp f=>z (I.old i p f).1;have N:bare J=J:=by obtain ⟨f,u⟩:=l;cases J;simp_all[bare]
 refine I.own V W B O (by rw[d]) (by rw[d]) F G H Y r K L M ?_ (.run YS YS l.1) (λh=>by subst h;rw[d];exact I.main) (λh=>by rw[d];exact I.wk i h m) (λp f=>(s p f).elim) ?_ ?_ ?_ ?_ ?_
 ·grind
 ·intro p f;rw[d]at f;obtain ⟨q,Z⟩:=I.rel i p m f;exact ⟨q,Z.appOwn _ _ _ λj e he=> .inl ((k f).2.2 e (o6 he))⟩
 ·exact λy=>(I.wg y).same (jq d) (Q y)
 ·exact I.oS (λ_ h=>by rw[l.1]at h;cases h) (jq d 0) λy _ f u=>f ((Q y).symm.trans u)
 ·intro p f;rw[d]at f;obtain ⟨rfl,u,_⟩:=k f;rw[O,u];exact I.left i p m f
 ·intro b cs sh e;have:=l.1;rw[e]at this;cases this
theorem pZ {e:p8}(h:e.mute=true): ∀a,e.loc≠ .mark (.release a):=by
 obtain ⟨b,wr,c⟩:=e;cases b<;>simp_all[Event.mute]
 grind
theorem Inv.leaves (I:Inv P E a n c w t A C)(v:c[i]? =S g)(o:(A i).ph= .gone)(B:g.status= .running)(sl:Option (Nat×Nat)):
  ∃gs' u A',runT P (crowd c w sl) i=(.next (crowd gs' w sl),u)/\Inv P E a n gs' w (t ++ u) A' C/\Gr gs' A' c A:=by
 have f:i<c.size:=YS;have y:i≠0:=λe=>by subst e;have:=I.main;rw[o]at this;cases this
 have H:eE P E a i (A i) (k8 t i) g w:=by
  cases I.sit i g v with
  | gone _ h=>exact h
  | run h=>grind
  | gO h=>grind
  | fy _ h=>cases h with | send _ _ _ _ _ _ h=>grind | recv _ _ _ _ _ _ h=>grind
 obtain ⟨q,J,p⟩:=cI o H;cases q with
 | zero=>have:=p.1;grind
 | succ q=>
  rcases p with ⟨h,_⟩ | ⟨_,F,N,m,z,p⟩
  ·grind
  ·let D:={A i with T:= .nat q};have K:(i==0)=false:=by simpa using y
   have l:D.ph=(A i).ph:=rfl;refine ⟨_,_,l7 A i D,o5 v (by rw[K];exact z w),?_,?_⟩
   ·have G:Mem E (l7 A i D) w:=I.mem.same R R;refine I.own v R R R R R I.ok (λj _=> .refl _ _) (λ_ _ _=>rfl) G (mP I.led I.low (I.mem.eZ i) G (λb=>⟨.inl,.inl,λ_=> .inl⟩) (Ao YV) (λe d=> .mute (C6 (m e d)) (pZ (m e d))) _ _) (λe d=>pZ (m e d)) (k9 _) (λe d=>low_mute (m e d) _) (.inr (.inr λe d=>C6 (m e d)))
     (.gone o (bX.leave p |>λx=>by unfold eE;rw[show D.ph= .gone from o];exact x)) (λh=>absurd h y) (λ_=> .inr (by rw[show D.ph= .gone from o];rfl)) (λr s=>I.old i r s) (λr s=> ?_) (λL=>(I.wg L).same (jq l) R) ?_ (λr s=>I.left i r f s) ?_
    ·obtain ⟨k,M⟩:=I.rel i r f s;exact ⟨k,M.appOwn _ _ _ λj e d=> .inl (C6 (m e (o6 d)))⟩
    ·exact I.oS (λh=>absurd h y) (jq l 0) λ_ _ h=>h
    ·intro b O Q e;rcases p.status with h | h<;>(rw[e]at h;cases h)
   ·refine .tree (by rw[jq l 0]) (.single ?_);rw[show ((c.map (o4 P g F w)).setIfInBounds i F).size=c.size by simp];exact fl f (by rw[J];exact ⟨_,w,0,U,R,R⟩)
end
end
section
open Go.ConcR (KK WgAt stA smA rd wr mk)
section
variable (P:Program)(E:Env)(End:aq->Goroutine->World->Nat->Prop)(n0:Nat)(gs:Array Goroutine)(w:World)(t:Trace)(A:Nat->ff)
def oG (i:Nat)(sl:Option (Nat×Nat)):Prop:= ∃a b u c d,runT P (crowd gs w sl) i=(.next (crowd a b sl),u)/\Inv P E End n0 a b (t ++ u) c d/\Gr a c gs A
end
theorem fC (f:j0->j0)(i:Nat)(g:j0):((c.map f).setIfInBounds i g).size=c.size:=YR
variable {A:Nat->ff}
theorem Inv.IX (I:Inv P E a n c w t A C)(u:c[i]? =S g)(m:j2 P (i==0) g w= .go J w o)(p:(A i).ph≠ .gone)(q:Up J)
  (f: ∀e∈o,AB E (i==0) (A i).F e/\(j1 e).low w.heap.size/\((A i).ph.ck=true->(j1 e).touch? =none))
  {T:Tr}(v:Tr.lt T (A i).T)(l:bX P E (i==0) (qF P E i) (A i).L (jc a i) T (l4 (k8 t i) o) (A i).r (A i).lg (A i).ph (A i).K J w):oG P E a n c w t A i d:=by
 have r:i<c.size:=YS;let D:={A i with T:=T};have s:D.ph=(A i).ph:=rfl;refine ⟨_,_,_,l7 A i D,C,o5 u m,?_,?_⟩
 ·exact I.quiet u R p R R R I.ok (λj _=> .refl _ _) (λ_ _ _=>rfl) (I.mem.same R R) (mP (D:=D) I.led I.low (I.mem.eZ i) (I.mem.same R R) (λb=>⟨.inl,.inl,λ_=> .inl⟩) (Ao YV) (λe k=>(f e k).1) _ _) (λe k=>(f e k).1.2) (k9 _) (λe k=>(f e k).2.1) (λ_=>rfl) l q (λh=>⟨R,R,λe k=>(f e k).2.2 h⟩)
 ·refine .tree (by rw[jq s 0]) (.single ?_);rw[fC];exact fl r v
variable {D:ff}
theorem Mem.step (M:Mem E A w)(o:w.heap.size<=v.heap.size)(C: ∀c x,(A 0).r c=S x->x<w.heap.size)(G:D.r=(A i).r)(s:D.F.sub ((A i).F.add w.heap.size v.heap.size))(q:D.F.ok):Mem E (l7 A i D) v:=by
 have e: ∀k,(l7 A i D k).r=(A k).r:=λk=>by
  by_cases q:k=i
  ·subst q;rw[h9];exact G
  ·rw[j3 _ _ q]
 have m: ∀b,D.F.rd b->(A i).F.rd b\/(w.heap.size<=b/\b<v.heap.size):=λb h=>s.rd b h;have t: ∀b,D.F.wr b->(A i).F.wr b\/(w.heap.size<=b/\b<v.heap.size):=λb h=>s.wr b h;have n: ∀b k,D.F.cl b k->(A i).F.cl b k\/(A i).F.wr b\/(w.heap.size<=b/\b<v.heap.size):=λb k h=>(s.cl b k h).imp id λh=>h.1;have J: ∀j,j≠i->D.F.apart (A j).F:=λj I=>by
  have p:=M.apart i j I.symm;have u:=M.low j;refine ⟨λb g d=> ?_,λb g d=> ?_,λb k g d=> ?_,λb k g d=> ?_,λb k g d=> ?_⟩
  ·rcases t b g with h | h
   ·exact p.wr b h d
   grind
  ·rcases m b d with h | h
   ·exact p.PG b g h
   ·have:=u b (M.eZ j b g);omega
  ·rcases n b k g with h | h | h
   ·exact p.cc b k h d
   ·exact p.GW b k d (M.eZ i b h)
   ·have:=M.lr j b k d;omega
  ·rcases n b k g with h | h | h
   ·exact p.cl b k h d
   ·exact p.wr b h d
   grind
  ·rcases m b d with h | h
   ·exact p.GW b k g h
   ·have:=M.lr j b k g;omega
 have sym: ∀ {F H:aq},F.apart H->H.apart F:=λh=>⟨h.PG,h.wr,λb k g d=>h.cc b k d g,h.GW,h.cl⟩;constructor
 ·intro k;by_cases a:k=i
  ·subst a;rw[h9];exact q.wr
  ·rw[j3 _ _ a];exact M.eZ k
 ·intro k b h;by_cases a:k=i
  ·subst a;rw[h9]at h;rcases m b h with h | h
   ·exact j6 (M.low k b h) o
   omega
  ·rw[j3 _ _ a]at h;exact j6 (M.low k b h) o
 ·intro k b c h;by_cases a:k=i
  ·subst a;rw[h9]at h;rcases n b c h with h | h | h
   ·exact j6 (M.lr k b c h) o
   ·exact j6 (M.low k b (M.eZ k b h)) o
   omega
  ·rw[j3 _ _ a]at h;exact j6 (M.lr k b c h) o
 ·intro k;by_cases a:k=i
  ·subst a;rw[h9];exact q.cl
  ·rw[j3 _ _ a];exact M.own k
 ·intro k l r;by_cases a:k=i
  ·subst a;rw[h9,j3 _ _ (Ne.symm r)];grind
  ·rw[j3 _ _ a];by_cases z:l=i
   ·subst z;rw[h9];grind
   ·rw[j3 _ _ z];exact M.apart k l r
 ·intro k b f;by_cases a:k=i
  ·subst a;rw[h9];have y:=M.slow b f;refine ⟨λh=> ?_,λc h=> ?_⟩
   ·rcases m b h with h | h
    ·exact (M.out k b f).1 h
    ·omega
   ·rcases n b c h with h | h | h
    ·exact (M.out k b f).2 c h
    ·exact (M.out k b f).1 (M.eZ k b h)
    ·omega
  ·rw[j3 _ _ a];exact M.out k b f
 ·intro k c b f;rw[e 0]at f;by_cases a:k=i
  ·subst a;rw[h9];have y:=C c b f;refine ⟨λh=> ?_,λB h=> ?_⟩
   ·rcases m b h with h | h
    ·exact (M.chan k c b f).1 h
    ·omega
   ·rcases n b B h with h | h | h
    ·exact (M.chan k c b f).2 B h
    ·exact (M.chan k c b f).1 (M.eZ k b h)
    ·omega
  ·rw[j3 _ _ a];exact M.chan k c b f
 ·exact M.wg
 ·exact λb f=>j6 (M.slow b f) o
 ·intro k;by_cases a:k=i
  ·subst a;rw[h9];exact ((M.pure k).add M.vG).sub s
  ·rw[j3 _ _ a];exact M.pure k
 ·exact M.wT
 ·intro c b;rw[e 0];exact M.tY c b
 ·exact Nat.le_trans M.vG o
theorem Inv.ru (I:Inv P E a i c w t A C)(h:(A 0).r n=S W):W<w.heap.size:=by obtain ⟨d,b,h⟩:=I.chan n W h;grind
theorem HU{e:p8}(h:ue F e)(a: ∀b,F.rd b->b<n)(c: ∀b,F.wr b->b<n)(d: ∀b k,F.cl b k->b<n):(j1 e).low n:=by
 cases h with
 | extern f=>trivial
 | room=>trivial
 | obj h=>exact a _ h
 | read h=>exact a _ h
 | write h=>exact c _ h
 | put h=>exact d _ _ h
 | yY h=>exact c _ h
theorem AX{e:p8}(h:ue F e):e.loc≠ .mark .disable/\e.loc≠ .mark .enable:=by cases h<;>simp
theorem En (I:Inv P E a n c w t A C)(p:oH (A i).F w v o)(d:D.F.sub ((A i).F.add w.heap.size v.heap.size))(G:D.r=(A i).r)(q:r4)(f:String):
  mh (uv E) (WA (l7 A i D)) (ri (l7 A i D)) (t ++ j5 i q f o):=by
 let D0:={A i with F:=(A i).F.add w.heap.size v.heap.size};have g:D0.F.ok:=⟨λb h=>h.imp (I.mem.eZ i b) id,λb k h s=>s.elim (I.mem.own i b k h) λH=>by have:=I.mem.lr i b k h;omega⟩;have r:Mem E (l7 A i D0) v:=I.mem.step p.size (λJ x h=>I.ru h) R (aq.dG _) g;have u:mh (uv E) (WA (l7 A i D0)) (ri (l7 A i D0)) (t ++ j5 i q f o):=by refine mP I.led I.low (I.mem.eZ i) r (λb=>⟨λh=>h.imp id (·.1),λh=>h.imp id (·.1),λk h=> .inl h⟩) (Ao YV) (λe y=> ?_) _ _;refine .LF (p.ev e y) (λb z=> ?_) g.wr R;have:=r.out i b z;rw[h9]at this;exact this
 refine u.tI (λ_ h=>h) (λ_ h=> .inl h) (λk l h=> .inl ?_) (λk l h=> .inl ?_)
 ·by_cases j:k=i
  ·subst j;unfold WA at h ⊢;rw[h9]at h ⊢;cases l with
   | cell B=>
    rcases h with h | h
    ·exact .inl (d.wr _ h)
    ·exact (d.cl _ _ h).elim .inr λh=> .inl h.1
   | obj x=>exact d.wr _ h
   | _=>exact h
  ·unfold WA at h ⊢;rw[j3 _ _ j]at h ⊢;exact h
 ·have m:(l7 A i D 0).r=(l7 A i D0 0).r:=by
   by_cases e:(0:Nat)=i
   ·subst e;assumption
   ·rw[j3 _ _ e,j3 _ _ e]
  rcases h with h | h
  rotate_left
  ·rw[m]at h;exact .inr h
  refine .inl ?_;by_cases j:k=i
  ·subst j;rw[h9]at h ⊢;cases l with
   | cell B=>
    rcases h with h | h
    ·exact .inl (d.rd _ h)
    ·exact (d.cl _ _ h).elim .inr λh=> .inl h.2
   | obj x=>exact d.rd _ h
   | _=>exact h
  ·rw[j3 _ _ j]at h ⊢;exact h
theorem Inv.steps (I:Inv P E a n c w t A C)(H:c[i]? =S g)(u:j2 P (i==0) g w= .go J v o)(l:(A i).ph.ck=false)(y:Up J)(f:oH (A i).F w v o)
  {T:Tr}{q:aq}(K:q.sub ((A i).F.add w.heap.size v.heap.size))(O:q.ok)(Q:Tr.lt T (A i).T)(r:bX P E (i==0) (qF P E i) (A i).L (jc a i) T (k8 t i) (A i).r (A i).lg (A i).ph q J v):oG P E a n c w t A i d:=by
 have z:i<c.size:=YS;let D:={A i with T:=T,F:=q};have B:D.ph=(A i).ph:=rfl;have V:=ff.mu l;have m:oH (A i).K w v o:=by rw[V];exact f
 have G:(A i).ph≠ .gone:=λh=>by rw[h]at l;cases l
 have W:Mem E (l7 A i D) v:=I.mem.step f.size (λL x h=>I.ru h) R K O;have p:l4 (k8 t i) o=k8 t i:=n7 (λe s=>AX (f.ev e s)) _;refine ⟨_,_,_,l7 A i D,C,o5 H u,?_,?_⟩
 ·refine I.quiet H R G R R R (I.mem.live m I.ok) (λj X=>I.mem.keep m X) (λL x M=>I.mem.free m (I.ru M) (I.mem.chan i L x M)) W (En (D:=D) I f K YV _ _) (λe s Y=> ?_) f.size (λe s=> ?_) (λN=>I.mem.free m (I.mem.slow _ (I.mem.wg N)) (I.mem.out i _ (I.mem.wg N))) ?_ y (λh=>YS)
  ·cases f.ev e s<;>simp
  ·refine HU (f.ev e s) (λb h=> ?_) (λb h=> ?_) (λb k h=> ?_)
   ·rcases h with h | h
    ·exact j6 (I.mem.low i b h) f.size
    omega
   ·rcases h with h | h
    ·exact j6 (I.mem.low i b (I.mem.eZ i b h)) f.size
    omega
   ·exact j6 (I.mem.lr i b k h) f.size
  ·unfold eE;rw[p,show D.K=q from ff.mu l];exact r
 ·refine .tree (by rw[jq B 0]) (.single ?_);rw[fC];exact fl z Q
end
section
open Go.ConcR (KK WgAt stA smA rd wr mk)
section
variable {E:Env}{n0:Nat}{w w':World}{n:Nat}
variable {A:Nat->ff}{D:ff}
theorem zh (b:1<=n0):Vn n0 n (l7 A 0 D) + (A 0).ph.nL=Vn n0 n A + D.ph.nL:=by
 unfold Vn;rw[h9,B2 (g:=λi=>if n0<=i then (A i).ph.gz else 0) λj _=> ?_];·omega
 ·by_cases a:j=0
  ·grind
  ·rw[j3 _ _ a]
theorem nv (f:1<=W)(b:W<=i)(c:i<n):Vn W n (upd A i D) + (A i).ph.gz=Vn W n A + D.ph.gz:=by
 unfold Vn;have d:(0:Nat)≠i:=YP;rw[j3 _ _ d];have e:(λj=>if W<=j then (upd A i D j).ph.gz else 0)=upd (λj=>if W<=j then (A j).ph.gz else 0) i D.ph.gz:=by
  funext j;by_cases a:j=i
  ·subst a;rw[h9,h9,if_pos b]
  ·rw[j3 _ _ a,j3 _ _ a]
 rw[e];have:=sumTo_upd (λj=>if W<=j then (A j).ph.gz else 0) D.ph.gz id c;simp only[id]at this;grind
theorem GZ (p:Ph):p.gz<=1:=by cases p<;>simp[Ph.gz]
theorem IG (p:Ph):p.nL<=1:=by
 cases p<;>simp[Ph.nL]
 grind
theorem NQ:Vn n0 n A<=n - n0 + 1:=by
 have:B1 n (λi=>if n0<=i then (A i).ph.gz else 0)<=n - n0:=by
  induction n with
  | zero=>simp[B1]
  | succ n a=>
   simp only[B1];by_cases h:n0<=n
   ·rw[if_pos h];have:=GZ (A n).ph;omega
   grind
 have:=IG (A 0).ph;unfold Vn;omega
theorem Inv.Rb (I:Inv P E a n0 c w t A C):Vn n0 c.size A<2147483647:=by have:=NQ (n0:=n0) (n:=c.size) (A:=A);have:=I.few;omega
structure dH (E:Env)(w w':World):Prop where
 same: ∀b,b≠E.Wg->w'.heap[b]? =w.heap[b]?
 size:w'.heap.size=w.heap.size
 tape:w'.tape=w.tape
 live:WgLive E.ty E.Wg w
 vq:WgLive E.ty E.Wg w'
 oo:w'.os=w.os/\w'.output=w.output
theorem dH.refl (h:WgLive E.ty E.Wg w):dH E w w:=⟨λ_ _=>rfl,R,R,h,h,R,R⟩
theorem dH.set {a c:Int}(h:WgAt E.ty E.Wg w a c)(v:Int):dH E w (w.setCell (stA E.Wg) (.int .u64 v)) where
 same b hb:=by simp[D1,stA,x6,Ne.symm hb]
 size:=YR
 tape:=rfl
 live:=⟨_,_,h⟩
 vq:=⟨_,_,h.setSt v⟩
 oo:=⟨R,R⟩
theorem dH.Pj {a c:Int}(h:WgAt E.ty E.Wg w a c)(v:Int):dH E w (w.setCell (smA E.Wg) (.int .u32 v)) where
 same b hb:=by simp[D1,smA,x6,Ne.symm hb]
 size:=YR
 tape:=rfl
 live:=⟨_,_,h⟩
 vq:=⟨_,_,h.setSm v⟩
 oo:=⟨R,R⟩
theorem dH.keep (h:dH E w w')(a: ¬F.rd E.Wg/\ ∀k,¬F.cl E.Wg k):dD F w w' where
 same b hb:=h.same b λe=>a.1 (e▸hb)
 size:=by rw[h.size];omega
 kind b c e f hb:=by
  by_cases d:b=E.Wg
  ·subst d;obtain ⟨n,o,g⟩:=h.live;obtain ⟨j,l,m⟩:=h.vq;unfold WgAt A7 at g m;grind
  ·exact ⟨c,f,by rw[h.same b d];exact hb⟩
 tape:=h.tape
 cell b i c e f hi hb:=⟨c,by rw[h.same b λe=>a.2 i (e▸hi)];exact hb,R,R⟩
theorem Mem.LK (M:Mem E A w)(a:v.heap.size=w.heap.size):Mem E A v:=⟨M.eZ,λi b h=>by rw[a];exact M.low i b h,λi b k h=>by rw[a];exact M.lr i b k h,M.own,M.apart,M.out,M.chan,M.wg,λb h=>by rw[a];exact M.slow b h,M.pure,M.wT,M.tY,by rw[a];exact M.vG⟩
def uf (E:Env)(e:p8):Prop:=(∃a b,e=⟨.cell a,b,true⟩/\a.block=E.Wg)\/((j1 e).touch? =none/\(∀a,e.loc≠ .mark (.release a))/\ ∀n,E.Wg<n->(j1 e).low n)
theorem uf.SI{e:p8}(h:uf E e)(f:E.S E.Wg):AB E m F e:=by
 rcases h with ⟨a,b,rfl,g⟩ | ⟨c,d,_⟩
 ·exact .atomic YS
 ·exact .mute c d
theorem uf.low {e:p8}(h:uf E e){n:Nat}(c:E.Wg<n):(j1 e).low n:=by
 rcases h with ⟨a,b,rfl,d⟩ | ⟨_,_,h⟩
 ·cases b<;>(show a.block<n;rw[d];exact c)
 grind
theorem uf.rd:uf E (rd (stA E.Wg)):= .inl ⟨_,_,R,R⟩
theorem uf.wr:uf E (wr (stA E.Wg)):= .inl ⟨_,_,R,R⟩
theorem uf.gO {e:p8}(h:e∈m7 (smA E.Wg)):uf E e:=by
 simp only[m7,q2,q4,p5,or_false]at h;rcases h with rfl | rfl | rfl | rfl
 ·exact .inr ⟨R,YR,λ_ _=>trivial⟩
 ·exact .inl ⟨_,_,R,R⟩
 ·exact .inl ⟨_,_,R,R⟩
 ·exact .inr ⟨R,YR,λ_ _=>trivial⟩
theorem Inv.Jk (I:Inv P E a i c w t A C)(d:E.on)(f:(A 0).r n=S W)(e:W=E.Wg):False:=by obtain ⟨j,b,h⟩:=I.chan n W f;obtain ⟨k,l,g⟩:=I.ok.1 d;unfold WgAt A7 at g;grind
theorem Inv.group (I:Inv P E a n c w t A C)(H:E.on)(hi:c[i]? =S g)(K:j2 P (i==0) g w= .go J v o)(k:dH E w v)(m: ∀e∈o,uf E e)
  (L:D.r=(A i).r)(M:D.lg=(A i).lg)(hL:D.L=(A i).L)(hF:D.F=(A i).F)(N:D.ph.nR=(A i).ph.nR)(O:D.ph.db=(A i).ph.db)(y:(A i).ph≠ .gone)
  (z:xf P E a i D (l4 (k8 t i) o) J v)(Q:i=0->D.ph.ck=false)(T:n<=i->(∃s,D.ph= .work false [] s)\/D.ph.ck=true)
  (B:n<=i->D.ph.ck=true-> ∃q,D5 (stA E.Wg) (t ++ j5 i g.frame.fn g.frame.place o) i q)(V:po E n c.size (l7 A i D) v)
  (p: ∀a0,((c.map (o4 P g J v)).setIfInBounds i J)[0]? =S a0->a0.status= .blocked->(l7 A i D 0).ph= .gO-> ¬WgAt E.ty E.Wg v 0 1)
  (r:n<=i->D.ph.ck=true->(A i).L (A i).F w)(W: ∀b cs sh,J≠j8 b cs sh)(X:Tr.lt D.T (A i).T\/(D.T=(A i).T/\runs ((c.map (o4 P g J v)).setIfInBounds i J)<runs c)):oG P E a n c w t A i d:=by
 have f:i<c.size:=YS;have G:=I.mem.wg H;have Y:=I.mem.slow _ G;have hM:=(I.mem.same hF L).LK k.size;have l:(l7 A i D 0).ph.db=(A 0).ph.db:=by
  by_cases h:(0:Nat)=i
  ·subst h;assumption
  ·rw[j3 _ _ h]
 refine ⟨_,_,_,l7 A i D,C,o5 hi K,?_,?_⟩
 ·refine I.own hi L M hL N O ⟨λ_=>k.vq,Sx.dR I.ok.2 (by rw[k.size];omega) (λb hb=>k.same b λe=>by have:=I.mem.wT H;omega) k.oo⟩ (λj _=>k.keep (I.mem.out j _ G)) (λa1 x hx=>k.same x λe=>(I.Jk H hx e).elim) hM
   (mP I.led I.low (I.mem.eZ i) hM (λb=>YS) (Ao L) (λe F=>(m e F).SI G) _ _) (λe F a2=> ?_) (by rw[k.size];omega) (λe F=>(m e F).low (by rw[k.size];exact Y)) ?_ z Q T (λu Z=>absurd (I.old i u Z).1 y) B (λ_=>V) (λ_=>p) (λu Z=> ?_) W
  ·rcases m e F with ⟨_,_,rfl,_⟩ | ⟨_,h,_⟩
   ·simp
   grind
  ·rcases Nat.eq_zero_or_pos i with h | h
   ·omega
   ·rcases Nat.lt_or_ge i n with u | u
    ·exact absurd (I.old i h u).1 y
    omega
  ·rw[hL,hF];exact I.ra i u f _ _ _ (k.keep (I.mem.out i _ G)) (r u Z)
 ·rcases X with h | ⟨h,h'⟩
  ·refine .tree (by rw[l]) (.single ?_);rw[fC];exact fl f h
  ·refine .run (by rw[l]) ?_ h';rw[fC,su f,h];apply z8;intro j;rw[z9];split
   ·rename_i e;subst e;rw[sr f];simp[trees,f]
   ·rfl
end
end
section
open Go.ConcR (KK WgAt stA smA rd wr mk)
section
variable {n0:Nat}
theorem Up.bare (h:Up g):bare g=g:=by obtain ⟨a,b⟩:=h;cases g;simp_all[Go.Proofs.Ytheopdnafbkhpaa.bare]
theorem Up.fy (h:Up g)(b:j0)(a:Array E5)(c:A1):g≠j8 b a c:=λe=>by have:=h.1;rw[e]at this;cases this
variable {A:Nat->ff}{D:ff}
theorem fG.main (d:1<=i)(h:fG i n A):fG i n (l7 A 0 D):=λj a b c=>by rw[j3 _ _ YP]at c;exact h j a b c
theorem Inv.lT (I:Inv P E a i c w t A C)(r:E.on)(s:c[0]? =S g)(k:j2 P true g w= .go J v o)(u:dH E w v)(l: ∀e∈o,uf E e){T:Tr}{ph:Ph}(m:ph.nR=(A 0).ph.nR)(n:ph.db=(A 0).ph.db)(b:ph.ck=false)
  (j:bX P E true (qF P E 0) (A 0).L (jc a 0) T (l4 (k8 t 0) o) (A 0).r (A 0).lg ph (A 0).F J v)(f:Up J)(p:po E i c.size (l7 A 0 {A 0 with T:=T,ph:=ph}) v)(x:Tr.lt T (A 0).T):oG P E a i c w t A 0 d:=by
 have z:=I.eu;refine I.group (D:={A 0 with T:=T,ph:=ph}) r s k u l R R R R m n (λh=>by have:=I.main;rw[h]at this;cases this) (.run (λh=>by rw[show ph= .gone from h]at b;cases b) ?_ f.1) (λ_=>b) (λh=>YP) (λh=>YP) p ?_ (λh=>YP) f.fy (.inl x)
 ·rw[f.bare];unfold eE;rw[ff.mu (D:={A 0 with T:=T,ph:=ph}) b];exact j
 ·intro B y q;rcases dB y with ⟨_,rfl,_⟩ | ⟨h,_⟩
  ·rw[f.1]at q;cases q
  omega
theorem Inv.nG (I:Inv P E a n c w t A C)(V:E.on)(W:c[i]? =S g)(h0:n<=i)(y:j2 P false g w= .go J v o)(X:dH E w v)(z: ∀e∈o,uf E e){T:Tr}{ph:Ph}(O:(A i).ph.ck=true)(B:(A i).ph.nR= [])(F:(A i).ph.db= [])(G:(A i).ph≠ .gone)(f:ph.ck=true)
  (H: ∀ (j:Nat) e,o[j]? =S e->(j1 e).touch? =none\/((∃Y wr,e=⟨.cell Y,wr,true⟩)/\0<deafBehind (Deaf t i) (o.extract 0 j)))
  (m:bX P E false (qF P E i) (A i).L (jc a i) T (deafBehind (Deaf t i) o) (A i).r (A i).lg ph .none J v)(r:Up J\/ph= .gone)(K:po E n c.size (l7 A i {A i with T:=T,ph:=ph}) v)
  (L: ∀p,c[0]? =S p->(o4 P g J v p).status= .blocked->(A 0).ph= .gO-> ¬WgAt E.ty E.Wg v 0 1)(Z:Tr.lt T (A i).T):oG P E a n c w t A i d:=by
 have h1:=I.eu;have s:i<c.size:=YS;have u:(i==0)=false:=YT;have x:ph.nR= []/\ph.db= []:=by cases ph<;>first | exact ⟨rfl,rfl⟩ | cases f
 have k:eE P E a i {A i with T:=T,ph:=ph} (deafBehind (Deaf t i) o) J v:=by unfold eE;rw[u,ff.lG (D:={A i with T:=T,ph:=ph}) f];exact m
 have l:J.status= .running\/J.status= .finished:=by
  rcases r with h | h
  ·exact .inl h.1
  ·obtain ⟨q,_,M⟩:=cI (show ({A i with T:=T,ph:=ph}:ff).ph= .gone from h) k;exact M.status
 refine I.group (D:={A i with T:=T,ph:=ph}) V W (by rw[u];exact y) X z R R R R (x.1.trans B.symm) (x.2.trans F.symm) G ?_ (λh=>YP) (λ_=> .inr f) (λN _=> ?_) K ?_ (λN _=>I.left i N s O) ?_ (.inl Z)
 ·by_cases h:ph= .gone
  ·exact .gone h k
  ·have Q:=r.resolve_right h;exact .run h (by rw[Q.bare];exact k) Q.1
 ·obtain ⟨q,M⟩:=I.rel i N s O;exact ⟨q,M.appOwn _ _ _ H⟩
 ·intro a1 hg hs hp;rcases dB hg with ⟨h,_⟩ | ⟨_,p,a0,rfl⟩
  ·omega
  ·rw[j3 _ _ YP]at hp;grind
 ·intro b cs sh e;rcases l with h | h<;>(rw[e]at h;cases h)
theorem kL: ∀e∈ #[rd (stA E.Wg)],uf E e:=λe a=>by simp at a;subst a;exact .rd
theorem FN: ∀e∈ #[wr (stA E.Wg)],uf E e:=λe a=>by simp at a;subst a;exact .wr
theorem iQ: ∀e∈ #[rd (stA E.Wg),wr (stA E.Wg)],uf E e:=λe a=>by
 simp at a;rcases a with rfl | rfl
 ·exact .rd
 ·exact .wr
theorem kV (d:Nat):l4 d #[rd (stA E.Wg)]=d:=n7 (λe a=>by simp at a;subst a;exact ⟨by simp[rd],by simp[rd]⟩) d
theorem Hp (d:Nat):l4 d #[wr (stA E.Wg)]=d:=n7 (λe a=>by simp at a;subst a;exact ⟨by simp[wr],by simp[wr]⟩) d
theorem jx (d:Nat):l4 d #[rd (stA E.Wg),wr (stA E.Wg)]=d:=n7 (λe a=>by simp at a;rcases a with rfl | rfl<;>exact ⟨by simp[rd,wr],by simp[rd,wr]⟩) d
theorem Inv.ox (I:Inv P E a i c w t A C)(F:aq):RK E F w w:=⟨.refl _ _,I.ok⟩
theorem dH.rk (h:dH E w v)(c: ¬F.rd E.Wg/\ ∀k,¬F.cl E.Wg k)(a:E.ok w)(d:E.S.n<=E.Wg):RK E F w v:=⟨h.keep c,λ_=>h.vq,Sx.dR a.2 (by rw[h.size];omega) (λb f=>h.same b λe=>YP) h.oo⟩
theorem Inv.K0 (I:Inv P E a i c w t A C):(A 0).K=(A 0).F:=ff.mu I.main
theorem Inv.Ms (I:Inv P E a n0 c w t A C)(e:E.on)(h:(A 0).ph≠ .gO):WgAt E.ty E.Wg w (Vn n0 c.size A * KK) 0/\fG n0 c.size A/\(∀b,(A 0).ph= .load b->Vn n0 c.size A<=b)/\(∀b,(A 0).ph= .wP b->Vn n0 c.size A<=b/\0<b)/\((A 0).ph= .gD\/(A 0).ph= .joined->Vn n0 c.size A=0):=by
 cases I.wg e with
 | plain d f g i j l=>grind
 | wait d=>grind
 | fx k d=>grind
 | cu k d=>grind
 | post d=>grind
theorem Inv.Om (I:Inv P E a n0 c w t A C)(f:E.on)(r:c[0]? =S g){h:List Ak}{i:List (List Ak)}(j:(A 0).ph= .work false (h::i) s)(u:(A 0).T= .node e)(k:Nat->j0)(l: ∀v,Up (k v))
  (m: ∀ (b:World)(v:Nat),RK E (A 0).F w b->v<2147483647->WgAt E.ty E.Wg b (v * KK) 0->j2 P true g b= .go (k v) (b.setCell (stA E.Wg) (.int .u64 ((v + 1) * KK))) #[rd (stA E.Wg),wr (stA E.Wg)])
  (x: ∀ (b:World)(v:Nat),RK E (A 0).F w b->v<2147483647->bX P E true (qF P E 0) (A 0).L (jc a 0) (e b v U) (k8 t 0) (A 0).r (A 0).lg (.work true (h::i) s) (A 0).F (k v) b):oG P E a n0 c w t A 0 d:=by
 obtain ⟨o,y,_⟩:=I.Ms f YS;have p:=I.Rb;have z:=I.mem.wg f;have q:=dH.set o ((Vn n0 c.size A + 1) * KK);have B:=q.rk (I.mem.out 0 _ z) I.ok (I.mem.wT f);have F: ∀D:ff,D.ph= .work true (h::i) s->Vn n0 c.size (l7 A 0 D)=Vn n0 c.size A + 1:=λD G=>by have:=zh (n0:=n0) (n:=c.size) (A:=A) (D:=D) I.eu;rw[G,j]at this;assumption
 refine I.lT f r (m w _ (I.ox _) p o) q iQ (ph:= .work true (h::i) s) (by rw[j];rfl) (by rw[j];rfl) R (by rw[jx];exact x _ _ B p) (l _) ?_ (by rw[u];exact Tr.bE ..);refine .plain ?_ ?_ ?_ ?_ ?_ (y.main I.eu)
 ·rw[h9];simp
 ·rw[h9];simp
 ·rw[h9];simp
 ·rw[h9];simp
 ·rw[F _ R];have:=o.setSt ((Vn n0 c.size A + 1) * KK);assumption
end
end
section
open Go.ConcR (KK WgAt stA smA rd wr mk)
section
variable {P:Program}{E:Env}{End:aq->Goroutine->World->Nat->Prop}{w:World}{A:Nat->ff}{g:Goroutine}{sl:Option (Nat×Nat)}
abbrev ug (P:o8)(E:Env)(a:aq->j0->World->Nat->Prop)(A:Nat->ff)(T:Tr)(d:Nat)(ph:Ph)(g:j0)(w:World):Prop:=bX P E true (qF P E 0) (A 0).L (jc a 0) T d (A 0).r (A 0).lg ph (A 0).F g w
variable {A:Nat->ff}{D:ff}
theorem iE (a:1<=i)(b:(A 0).ph.nL=0)(c:D.ph.nL=0):Vn i n (l7 A 0 D)=Vn i n A:=by have:=zh (n:=n) (A:=A) (D:=D) a;omega
theorem Inv.KE (I:Inv P E a i c w t A C)(p:E.on)(s:c[0]? =S g)(h:(A 0).ph= .load W)(u:(A 0).T= .node e)(m:Nat->j0)(k: ∀v,Up (m v))
  (l: ∀ (b:World)(v:Nat),RK E (A 0).F w b->v<=W->v<2147483648->WgAt E.ty E.Wg b (v * KK) 0->j2 P true g b= .go (m v) b #[rd (stA E.Wg)])
  (q: ∀b,RK E (A 0).F w b->ug P E a A (e b 0 undef) (k8 t 0) .joined (m 0) b)(B: ∀ (b:World)(v:Nat),RK E (A 0).F w b->0<v->v<=W->v<2147483648->ug P E a A (e b v undef) (k8 t 0) (.wP v) (m v) b):oG P E a i c w t A 0 d:=by
 obtain ⟨r,x,F,_⟩:=I.Ms p YS;have G:=I.Rb;have y:dH E w w:= .refl ⟨_,_,r⟩;have j:=F W h;rcases Nat.eq_zero_or_pos (Vn i c.size A)with o | o
 ·have f:=l w _ (I.ox _) j YP r;rw[o]at f;refine I.lT p s f y kL (ph:= .joined) (by rw[h];rfl) (by rw[h];rfl) R (by rw[kV];exact q w (I.ox _)) (k _) ?_ (by rw[u];exact Tr.bE ..);have z:=iE (n:=c.size) (D:={A 0 with T:=e w 0 undef,ph:= .joined}) I.eu (by rw[h];rfl) R;refine .plain ?_ ?_ ?_ (λ_=>by rw[z,o]) YS (x.main I.eu)
  ·rw[h9];simp
  ·omega
  ·rw[h9];simp
 ·refine I.lT p s (l w _ (I.ox _) j YP r) y kL (ph:= .wP (Vn i c.size A)) (by rw[h];rfl) (by rw[h];rfl) R (by rw[kV];exact B w _ (I.ox _) o j YP) (k _) ?_ (by rw[u];exact Tr.bE ..);have z:=iE (n:=c.size) (D:={A 0 with T:=e w (Vn i c.size A) undef,ph:= .wP (Vn i c.size A)}) I.eu (by rw[h];rfl) R;refine .plain ?_ ?_ ?_ ?_ YS (x.main I.eu)
  ·rw[h9];simp
  ·rw[h9];simp
  ·rw[h9];grind
  ·rw[h9];simp
theorem Inv.Ok (I:Inv P E a i c w t A C)(f:E.on)(r:c[0]? =S g)(d:(A 0).ph= .wP W)(s:(A 0).T= .node e){m:j0}(B:Up J)(o:Up m)
  (p: ∀b,RK E (A 0).F w b->WgAt E.ty E.Wg b (W * KK) 0->j2 P true g b= .go J (b.setCell (stA E.Wg) (.int .u64 (W * KK + 1))) #[rd (stA E.Wg),wr (stA E.Wg)])
  (h: ∀ (b:World)(v:Nat),RK E (A 0).F w b->v<W->WgAt E.ty E.Wg b (v * KK) 0->j2 P true g b= .go m b #[rd (stA E.Wg)])
  (F: ∀b,RK E (A 0).F w b->ug P E a A (e b 0 undef) (k8 t 0) .gO J b)(q: ∀ (b:World)(v:Nat),RK E (A 0).F w b->v<W->ug P E a A (e b (v + 1) undef) (k8 t 0) (.load v) m b):oG P E a i c w t A 0 sl:=by
 obtain ⟨j,u,_,G,_⟩:=I.Ms f YS;obtain ⟨H,K⟩:=G W d;have L:=I.mem.wg f;by_cases x:Vn i c.size A=W
 ·have y:=dH.set j (W * KK + 1);have k:=j;rw[x]at k;refine I.lT f r (p w (I.ox _) k) y iQ (ph:= .gO) (by rw[d];rfl) (by rw[d];rfl) R (by rw[jx];exact F _ (y.rk (I.mem.out 0 _ L) I.ok (I.mem.wT f))) B ?_ (by rw[s];exact Tr.bE ..);have z:=iE (n:=c.size) (D:={A 0 with T:=e (w.setCell (stA E.Wg) (.int .u64 (W * KK + 1))) 0 undef,ph:= .gO}) I.eu (by rw[d];rfl) R;refine .wait YV YP ?_ (u.main I.eu);rw[z,x];exact j.setSt _
 ·have l:Vn i c.size A<W:=by omega
  refine I.lT f r (h w _ (I.ox _) l j) (.refl ⟨_,_,j⟩) kL (ph:= .load (Vn i c.size A)) (by rw[d];rfl) (by rw[d];rfl) R (by rw[kV];exact q w _ (I.ox _) l) o ?_ (by rw[s];exact Tr.bE ..);have z:=iE (n:=c.size) (D:={A 0 with T:=e w (Vn i c.size A + 1) undef,ph:= .load (Vn i c.size A)}) I.eu (by rw[d];rfl) R;refine .plain ?_ ?_ ?_ ?_ YS (u.main I.eu)
  ·rw[h9];simp
  ·rw[h9];grind
  ·rw[h9];simp
  ·rw[h9];simp
theorem Inv.HJ (I:Inv P E a i c w t A C)(k:E.on)(m:c[0]? =S g)(d:(A 0).ph= .gD)(o:(A 0).T= .node e)(p:Up J)
  (f: ∀b,RK E (A 0).F w b->WgAt E.ty E.Wg b 0 0->j2 P true g b= .go J b #[rd (stA E.Wg)])(q: ∀b,RK E (A 0).F w b->ug P E a A (e b 0 undef) (k8 t 0) .joined J b):oG P E a i c w t A 0 sl:=by
 obtain ⟨h,r,_,_,s⟩:=I.Ms k YS;have l:=s (.inl d);have j:WgAt E.ty E.Wg w 0 0:=by rw[l]at h;simpa using h
 refine I.lT k m (f w (I.ox _) j) (.refl ⟨_,_,h⟩) kL (ph:= .joined) (by rw[d];rfl) (by rw[d];rfl) R (by rw[kV];exact q w (I.ox _)) p ?_ (by rw[o];exact Tr.bE ..);have u:=iE (n:=c.size) (D:={A 0 with T:=e w 0 undef,ph:= .joined}) I.eu (by rw[d];rfl) R;refine .plain ?_ ?_ ?_ (λ_=>by rw[u,l]) YS (r.main I.eu)
 ·rw[h9];simp
 ·omega
 ·rw[h9];simp
theorem vZ (a:c[i]? =S g)(e:g.status= .running)(b:J.status≠ .running):runs (c.setIfInBounds i J)<runs c:=by obtain ⟨d,rfl⟩:=r7.1 a;unfold runs;grind
theorem uP (d:Nat)(a:Addr):l4 d (m7 a)=d:=YV
theorem Inv.Oo (I:Inv P E a i c w t A C)(f:E.on)(v:c[0]? =S g)(l:g.status= .running)(u:(A 0).ph= .gO)(L:(A 0).T= .node e)(M:Up J)(F:eE P E a 0 (A 0) (k8 t 0) (bare g) w)
  (x: ∀ (d:World) m,RK E (A 0).F w d->WgAt E.ty E.Wg d m 0->j2 P true g d= .go {bare g with status:= .blocked} d #[])
  (p: ∀d,RK E (A 0).F w d->WgAt E.ty E.Wg d 0 1->j2 P true g d= .go J (d.setCell (smA E.Wg) (.int .u32 0)) (m7 (smA E.Wg)))
  (N: ∀d,RK E (A 0).F w d->ug P E a A (e d 0 undef) (k8 t 0) .gD J d):oG P E a i c w t A 0 sl:=by
 have O:=I.mem.wg f;have Q: ∀m,WgAt E.ty E.Wg w m 0->oG P E a i c w t A 0 sl:=λm y=>by
  have q:=I.eu;have z:(bare {bare g with status:= .blocked})=bare g:=rfl;refine I.group (D:=A 0) f v (x w m (I.ox _) y) (.refl ⟨_,_,y⟩) (λr B=>by simp at B) R R R R R R YS (.gO u (by assumption) (by rw[z]) f) (λ_=>I.main) (λh=>YP) (λh=>YP) ?_ ?_ (λh=>YP) ?_ (.inr ⟨R,?_⟩)
  ·exact (I.wg f).same (jq R) R
  ·intro o Y Z V h;have:=(y.unique h).2;cases this
  ·intro b W X r;have:(j8 b W X).offers= .none:=by rw[<-r];rfl
   cases this
  ·have r:o4 P g {bare g with status:= .blocked} w=id:=by funext o;simp[o4]
   rw[r,Array.map_id];exact vZ v l YR
 cases I.wg f with
 | plain q=>grind
 | wait q s j G=>grind
 | fx k q s j=>grind
 | cu k q s j=>grind
 | post q s j G=>
  have H:=dH.Pj j 0;refine I.lT f v (p w (I.ox _) j) H (λr B=> .gO B) (ph:= .gD) (by rw[u];rfl) (by rw[u];rfl) R (by rw[uP];exact N _ (H.rk (I.mem.out 0 _ O) I.ok (I.mem.wT f))) M ?_ (by rw[L];exact Tr.bE ..);have K:=iE (n:=c.size) (D:={A 0 with T:=e (w.setCell (smA E.Wg) (.int .u32 0)) 0 undef,ph:= .gD}) I.eu (by rw[u];rfl) R;refine .plain ?_ ?_ ?_ (λ_=>by rw[K,s]) ?_ (G.main I.eu)
  ·rw[h9];simp
  ·omega
  ·rw[h9];simp
  ·rw[K,s];have:=j.setSm 0;assumption
end
end
section
open Go.ConcR (KK WgAt stA smA rd wr mk)
section
variable {P:Program}{E:Env}{End:aq->Goroutine->World->Nat->Prop}{w:World}{A:Nat->ff}{i:Nat}{g:Goroutine}{sl:Option (Nat×Nat)}
variable {A:Nat->ff}{D:ff}
theorem CS (a:1<=W)(b:W<=i)(c:i<n)(d:(A i).ph.gz=0)(e:D.ph.gz=0):Vn W n (l7 A i D)=Vn W n A:=by have:=nv (A:=A) (D:=D) a b c;omega
theorem fG.worker (h:fG W n A)(e: ¬D.ph.last):fG W n (l7 A i D):=λj a b c=>by
 by_cases d:j=i
 ·subst d;rw[h9]at c;exact e c
 ·rw[j3 _ _ d]at c;exact h j a b c
theorem po.swap (h:po E W n A w)(m:1<=W)(v:W<=i)(x:i<n)(y:D.ph.gz=(A i).ph.gz)(r: ¬D.ph.last)(d: ¬ (A i).ph.last):po E W n (l7 A i D) w:=by
 have z:Vn W n (l7 A i D)=Vn W n A:=by have:=nv (A:=A) (D:=D) m v x;omega
 have B:(l7 A i D 0).ph=(A 0).ph:=by rw[j3 _ _ YP]
 have t: ∀ {k},(∀j,W<=j->j<n->(A j).ph.last->j=k)-> ∀j,W<=j->j<n->(l7 A i D j).ph.last->j=k:=λo j a b c=>by
  by_cases u:j=i
  ·subst u;rw[h9]at c;grind
  ·rw[j3 _ _ u]at c;grind
 cases h with
 | plain m p g f q l=>exact .plain YS YS YS YS YS (l.worker r)
 | wait m p g f=>exact .wait YS YP YS (f.worker r)
 | fx k m p g f q l o=>
  have s:k≠i:=λe=>by subst e;rcases l with h | h<;>(rw[h]at d;exact d trivial)
  exact .fx k YS YP g f q (by rw[j3 _ _ s];exact l) (t o)
 | cu k m p g f q l o=>
  have s:k≠i:=λe=>by subst e;rw[l]at d;exact d trivial
  exact .cu k YS YP g f q (by rw[j3 _ _ s];exact l) (t o)
 | post m p g f=>exact .post YS YP g (f.worker r)
abbrev wU (P:o8)(E:Env)(End:aq->j0->World->Nat->Prop)(A:Nat->ff)(i:Nat)(T:Tr)(d:Nat)(ph:Ph)(g:j0)(w:World):Prop:=bX P E false (qF P E i) (A i).L (jc End i) T d (A i).r (A i).lg ph .none g w
theorem Inv.On (I:Inv P E a W c w t A C)(f:E.on)(r:c[i]? =S g)(s:W<=i)(j:(A i).ph= .work false [] [])(u:(A i).T= .node e)(k:Up J)(q:k8 t i=0)(v:(A i).L (A i).F w)
  (x:j2 P false g w= .go J w #[Go.ConcR.mk (.releaseMerge (stA E.Wg))])(y: ∀l,RK E .none w l->wU P E a A i (e l 0 undef) 0 .tail J l):oG P E a W c w t A i d:=by
 have z:=I.eu;have m:i<c.size:=YS;have o:(i==0)=false:=YT;have B: ∀p∈ #[Go.ConcR.mk (.releaseMerge (stA E.Wg))],uf E p:=λp b=>by simp at b;subst b;exact .inr ⟨R,Zf,λn F=>F⟩
 refine I.group (D:={A i with T:=e w 0 undef,ph:= .tail}) f r YS (.refl (I.ok.1 f)) B R R R R (by rw[j];rfl) (by rw[j];rfl) YS (.run YR ?_ k.1) (λh=>YP) (λ_=> .inr R) (λ_ _=>⟨_,RelBy.new q _ _⟩) ?_ ?_ (λ_ _=>v) k.fy (.inl (by rw[u];exact Tr.bE ..))
 ·rw[k.bare];unfold eE;rw[o,ff.lG (D:={A i with T:=e w 0 undef,ph:= .tail}) R,deafBehind_still (λp b=>by simp at b;subst b;exact ⟨Zf,Zf⟩),q];exact y w ⟨.refl _ _,I.ok⟩
 ·exact (I.wg f).swap z s m (by rw[j];rfl) (λh=>h) (by rw[j];exact λh=>h)
 ·exact I.oS (λh=>YP) (by rw[j3 _ _ YP]) (λ_ _ h=>h) f
theorem pE(b:0<i): ∀ (j:Nat) e,#[rd (stA E.Wg),wr (stA E.Wg)][j]? =S e->(j1 e).touch? =none\/((∃c wr,e=⟨.cell c,wr,true⟩)/\0<l4 i (#[rd (stA E.Wg),wr (stA E.Wg)].extract 0 j)):=by
 intro j e a;rcases j with _ | _ | j
 ·simp at a;subst a;exact .inr ⟨⟨_,_,R⟩,b⟩
 ·simp at a;subst a;refine .inr ⟨⟨_,_,R⟩,?_⟩;rw[show (#[rd (stA E.Wg),wr (stA E.Wg)]:Array p8).extract 0 (0 + 1)= #[rd (stA E.Wg)]from rfl,kV];exact b
 grind
theorem uO(c:0<i)(x:p8)(d: ∃a wr,x=⟨.cell a,wr,true⟩): ∀ (j:Nat) e,#[x][j]? =S e->(j1 e).touch? =none\/((∃a wr,e=⟨.cell a,wr,true⟩)/\0<l4 i (#[x].extract 0 j)):=by
 intro j e b;rcases j with _ | j
 ·simp at b;subst b;exact .inr ⟨d,c⟩
 grind
theorem AV (d:Nat): ∀ (j:Nat) e,(m7 (smA E.Wg))[j]? =S e->(j1 e).touch? =none\/((∃b wr,e=⟨.cell b,wr,true⟩)/\0<l4 d ((m7 (smA E.Wg)).extract 0 j)):=by
 intro j e a;rcases j with _ | _ | _ | _ | j
 ·simp[m7]at a;subst a;exact .inl R
 ·simp[m7]at a;subst a;refine .inr ⟨⟨_,_,R⟩,?_⟩;simp[m7,l4]
 ·simp[m7]at a;subst a;refine .inr ⟨⟨_,_,R⟩,?_⟩;simp[m7,l4]
 ·simp[m7]at a;subst a;exact .inl R
 ·simp[m7]at a
theorem Inv.Fo (I:Inv P E a i c w t A C)(f:E.on)(h: ¬WgAt E.ty E.Wg w 0 1-> ¬WgAt E.ty E.Wg v 0 1): ∀p,c[0]? =S p->(o4 P g J v p).status= .blocked->(A 0).ph= .gO-> ¬WgAt E.ty E.Wg v 0 1:=λp j b d=>by have e:=ju b;rw[<-e]at b;exact h (I.Cc f p j b d)
theorem Inv.Ol (I:Inv P E a n c w t A C)(o:E.on)(H:c[i]? =S g)(s:n<=i)(l:(A i).ph= .tail)(J:(A i).T= .node e)(B:Nat->Nat->j0)(hu:Up (B 0 1))(K:0<k8 t i)
  (q: ∀ (f:World)(v p:Nat),RK E .none w f->p<=1->v<2147483647->WgAt E.ty E.Wg f ((v + 1) * KK + p) 0->j2 P false g f= .go (B v p) (f.setCell (stA E.Wg) (.int .u64 (v * KK + p))) #[rd (stA E.Wg),wr (stA E.Wg)])
  (hf: ∀f,RK E .none w f->wU P E a A i (e f 0 undef) (k8 t i) .en (B 0 1) f)
  (u: ∀ (f:World)(v p:Nat),RK E .none w f->p<=1->v<2147483647-> ¬ (v=0/\p=1)->wU P E a A i (e f (2 * v + p + 1) undef) (k8 t i) .gone (B v p) f):oG P E a n c w t A i d:=by
 have h1:=I.eu;have x:i<c.size:=YS;have hv:=I.Rb;have F: ∀D:ff,D.ph.gz=0->Vn n c.size (l7 A i D) + 1=Vn n c.size A:=λD hD=>by have:=nv (A:=A) (D:=D) h1 s x;rw[hD,l]at this;assumption
 have L: ∀D:ff,(l7 A i D 0).ph=(A 0).ph:=λD=>by rw[j3 _ _ YP]
 have a0:1<=Vn n c.size A:=by have:=F {A i with ph:= .gone} R;omega
 obtain ⟨v,y⟩: ∃v,Vn n c.size A=v + 1:=⟨Vn n c.size A - 1,YP⟩;have M: ∀_:World,¬ (aq.none.rd E.Wg)/\ ∀k,¬aq.none.cl E.Wg k:=λ_=>⟨λh=>h,λ_ h=>h⟩;cases I.wg o with
 | plain V G N O W a6=>
  have m:WgAt E.ty E.Wg w (((v:Nat) + 1) * KK + ((0:Nat):Int)) 0:=by rw[y]at W;simpa using W
  have r:=dH.set m (v * KK + ((0:Nat):Int));refine I.nG o H s (q w v 0 ⟨.refl _ _,I.ok⟩ YP YP m) r iQ (ph:= .gone) (by rw[l];rfl) (by rw[l];rfl) (by rw[l];rfl) YS R (pE K) (by rw[jx];exact u _ v 0 (r.rk (M w) I.ok (I.mem.wT o)) YP YP YR) (.inr R) ?_ (I.Fo o λ_ h=> ?_) (by rw[J];exact Tr.bE ..)
  ·have z:=F {A i with T:=e (w.setCell (stA E.Wg) (.int .u64 (v * KK + ((0:Nat):Int)))) (2 * v + 0 + 1) undef,ph:= .gone} R;refine .plain YS (λb X=> ?_) (λb X=> ?_) (λX=> ?_) ?_ (a6.worker λh=>h)
   ·grind
   ·grind
   ·grind
   ·have:Vn n c.size (l7 A i {A i with T:=e (w.setCell (stA E.Wg) (.int .u64 (v * KK + ((0:Nat):Int)))) (2 * v + 0 + 1) undef,ph:= .gone})=v:=by omega
    rw[this];have:=m.setSt (v * KK + ((0:Nat):Int));grind
  ·have:=(h.unique (m.setSt _)).2;cases this
 | wait V G N O=>
  have m:WgAt E.ty E.Wg w (((v:Nat) + 1) * KK + ((1:Nat):Int)) 0:=by rw[y]at N;simpa using N
  have r:=dH.set m (v * KK + ((1:Nat):Int));have Y:WgAt E.ty E.Wg (w.setCell (stA E.Wg) (.int .u64 (v * KK + ((1:Nat):Int)))) 0 1->False:=λh=>by have:=(h.unique (m.setSt _)).2;cases this
  rcases Nat.eq_zero_or_pos v with Z | Z
  ·subst Z;refine I.nG o H s (q w 0 1 ⟨.refl _ _,I.ok⟩ YP YP m) r iQ (ph:= .en) (by rw[l];rfl) (by rw[l];rfl) (by rw[l];rfl) YS R (pE K) (by rw[jx];exact hf _ (r.rk (M w) I.ok (I.mem.wT o))) (.inl hu) ?_ (I.Fo o λ_ h=>Y h) (by rw[J];exact Tr.bE ..);have z:=F {A i with T:=e (w.setCell (stA E.Wg) (.int .u64 (((0:Nat):Int) * KK + ((1:Nat):Int)))) 0 undef,ph:= .en} R;refine .fx i YS YP ?_ s x (by rw[h9];simp) λj b1 b2 b3=> ?_
   ·have:=m.setSt (((0:Nat):Int) * KK + ((1:Nat):Int));assumption
   ·refine j4 λhj=> ?_;rw[j3 _ _ hj]at b3;exact O j b1 b2 b3
  ·refine I.nG o H s (q w v 1 ⟨.refl _ _,I.ok⟩ YP YP m) r iQ (ph:= .gone) (by rw[l];rfl) (by rw[l];rfl) (by rw[l];rfl) (by rw[l];simp) R (pE K) (by rw[jx];exact u _ v 1 (r.rk (M w) I.ok (I.mem.wT o)) YP YP YP) (.inr R) ?_ (I.Fo o λ_ h=>Y h) (by rw[J];exact Tr.bE ..);have z:=F {A i with T:=e (w.setCell (stA E.Wg) (.int .u64 (v * KK + ((1:Nat):Int)))) (2 * v + 1 + 1) undef,ph:= .gone} R;have Q:Vn n c.size (l7 A i {A i with T:=e (w.setCell (stA E.Wg) (.int .u64 (v * KK + ((1:Nat):Int)))) (2 * v + 1 + 1) undef,ph:= .gone})=v:=YP;refine .wait (by rw[L];exact V) YP ?_ (O.worker λh=>h);rw[Q];have:=m.setSt (v * KK + ((1:Nat):Int));omega
 | fx k _ G=>omega
 | cu k _ G=>omega
 | post _ G=>omega
theorem Inv.El (I:Inv P E End n c w t A C)(e:E.on)(b:n<=i)(a:i<c.size)(d:(A i).ph.last):
  (A 0).ph= .gO/\Vn n c.size A=0/\(∀j,n<=j->j<c.size->(A j).ph.last->j=i)/\(((A i).ph= .en\/(A i).ph= .eo)/\WgAt E.ty E.Wg w 1 0\/(A i).ph= .cu/\WgAt E.ty E.Wg w 0 0):=by
 cases I.wg e with
 | plain _ _ _ _ _ h=>exact absurd d (h i b a)
 | wait _ _ _ h=>exact absurd d (h i b a)
 | post _ _ _ h=>exact absurd d (h i b a)
 | fx k f g l m o p q=>grind
 | cu k f g l m o p q=>grind
theorem Inv.JJ (d: ∀j,n<=j->j<c.size->(A j).ph.last->j=i): ∀j,n<=j->j<c.size->(l7 A i D j).ph.last->j=i:=λj e f a=>by refine j4 λb=> ?_;rw[j3 _ _ b]at a;grind
theorem Inv.Hz (I:Inv P E a n c w t A C)(l:E.on)(p:c[i]? =S g)(k:n<=i)(j:(A i).ph= .en)(q:(A i).T= .node e)(r:Up J)(s:0<k8 t i)
  (m: ∀b,RK E .none w b->WgAt E.ty E.Wg b 1 0->j2 P false g b= .go J b #[rd (stA E.Wg)])(u: ∀b,RK E .none w b->wU P E a A i (e b 0 U) (k8 t i) .eo J b):oG P E a n c w t A i d:=by
 have v:=I.eu;have f:i<c.size:=YS;obtain ⟨x,y,z,B⟩:=I.El l k f (by rw[j];trivial);have o:WgAt E.ty E.Wg w 1 0:=by
  rcases B with ⟨_,h⟩ | ⟨h,_⟩
  ·exact h
  ·grind
 refine I.nG l p k (m w ⟨.refl _ _,I.ok⟩ o) (.refl ⟨_,_,o⟩) kL (ph:= .eo) (by rw[j];rfl) (by rw[j];rfl) (by rw[j];rfl) YS R (uO s _ ⟨_,_,R⟩) (by rw[kV];exact u w ⟨.refl _ _,I.ok⟩) (.inl r) ?_ (I.Fo l λh=>h) (by rw[q];exact Tr.bE ..);exact .fx i (by rw[j3 _ _ YP];exact x) ((CS v k f (by rw[j];rfl) R).trans y) o k f (by rw[h9];simp) (Inv.JJ z)
theorem Inv.HC (I:Inv P E a n c w t A C)(k:E.on)(q:c[i]? =S g)(l:n<=i)(j:(A i).ph= .eo)(r:(A i).T= .node e)(s:Up J)(u:0<k8 t i)
  (o: ∀b,RK E .none w b->WgAt E.ty E.Wg b 1 0->j2 P false g b= .go J (b.setCell (stA E.Wg) (.int .u64 0)) #[wr (stA E.Wg)])(v: ∀b,RK E .none w b->wU P E a A i (e b 0 U) (k8 t i) .cu J b):oG P E a n c w t A i d:=by
 have x:=I.eu;have f:i<c.size:=YS;obtain ⟨y,z,B,D⟩:=I.El k l f (by rw[j];trivial);have m:WgAt E.ty E.Wg w 1 0:=by
  rcases D with ⟨_,h⟩ | ⟨h,_⟩
  ·exact h
  ·grind
 have p:=dH.set m 0;refine I.nG k q l (o w ⟨.refl _ _,I.ok⟩ m) p FN (ph:= .cu) (by rw[j];rfl) (by rw[j];rfl) (by rw[j];rfl) YS R (uO u _ ⟨_,_,R⟩) (by rw[Hp];exact v _ (p.rk ⟨λh=>h,λ_ h=>h⟩ I.ok (I.mem.wT k))) (.inl s) ?_ (I.Fo k λ_ h=> ?_) (by rw[r];exact Tr.bE ..)
 ·exact .cu i (by rw[j3 _ _ YP];exact y) ((CS x l f (by rw[j];rfl) R).trans z) (m.setSt 0) l f (by rw[h9]) (Inv.JJ B)
 ·have:=(h.unique (m.setSt _)).2;cases this
theorem Inv.HE (I:Inv P E End n c w t A C)(m:E.on)(B:c[i]? =S g)(o:n<=i)(b:(A i).ph= .cu)(F:(A i).T= .node e)(G:mayWake P g=true)
  (r: ∀a,RK E .none w a->WgAt E.ty E.Wg a 0 0->j2 P false g a= .go J (a.setCell (smA E.Wg) (.int .u32 1)) (m7 (smA E.Wg)))(H: ∀a,RK E .none w a->wU P E End A i (e a 0 undef) (Deaf t i) .gone J a):oG P E End n c w t A i sl:=by
 have K:=I.eu;have f:i<c.size:=YS;obtain ⟨L,M,W,N⟩:=I.El m o f (by rw[b];trivial);have s:WgAt E.ty E.Wg w 0 0:=by
  rcases N with ⟨h,_⟩ | ⟨_,h⟩
  ·grind
  ·exact h
 have y:=dH.Pj s 1;have k:=H _ (y.rk ⟨λh=>h,λ_ h=>h⟩ I.ok (I.mem.wT m));have u:J.status= .running\/J.status= .finished:=by obtain ⟨q,_,u⟩:=cI (D:={A i with T:=e (w.setCell (smA E.Wg) (.int .u32 1)) 0 undef,ph:= .gone}) (P:=P) (E:=E) (End:=End) (i:=i) (d:=Deaf t i) (g:=J) (w:=w.setCell (smA E.Wg) (.int .u32 1)) R (by unfold eE;rw[show (i==0)=false by simp;omega,ff.lG (D:={A i with T:=e (w.setCell (smA E.Wg) (.int .u32 1)) 0 undef,ph:= .gone}) R];exact k);exact u.status
 refine I.nG m B o (r w ⟨.refl _ _,I.ok⟩ s) y (λX O=> .gO O) (ph:= .gone) (by rw[b];rfl) (by rw[b];rfl) (by rw[b];rfl) YS R (AV _) (by rw[uP];exact k) (.inr R) ?_ (λp v l Q=> ?_) (by rw[F];exact Tr.bE ..)
 ·refine .post (by rw[j3 _ _ YP];exact L) ((CS K o f (by rw[b];rfl) R).trans M) (s.setSm 1) λj Y Z x=> ?_;by_cases z:j=i
  ·subst z;rw[h9]at x;exact x
  ·rw[j3 _ _ z]at x;grind
 ·exfalso;have V:o4 P g J (w.setCell (smA E.Wg) (.int .u32 1)) p=p.again (w.setCell (smA E.Wg) (.int .u32 1)):=by unfold o4;rcases u with h | h<;>simp[G,h]
  rw[V]at l;cases I.sit 0 p v with
  | gone h=>grind
  | run _ _ h=>rw[y8 _ (.inl h),h]at l;cases l
  | gO _ _ h=>rw[h]at l;simp[o0,bare]at l
  | fy _ h=>cases h with | send _ _ _ _ _ _ h=>grind | recv _ _ _ _ _ _ h=>grind
end
end
section
open Go.ConcR (KK WgAt stA smA rd wr)
section
variable {n0:Nat}{gs':Array Goroutine}{w w':World}{u:Trace}{A A':Nat->ff}{C':Nat->Bool}{x:Nat}
structure fH (x:Nat)(w w':World):Prop where
 same: ∀b,b≠x->w'.heap[b]? =w.heap[b]?
 size:w'.heap.size=w.heap.size
 tape:w'.tape=w.tape
 chan: ∃cap buf cl a b tm,w.heap[x]? =S (.chan cap buf cl a b tm)
 Oc: ∃cap buf cl a b tm,w'.heap[x]? =S (.chan cap buf cl a b tm)
 oo:w'.os=w.os/\w'.output=w.output
theorem fH.set {a b:Nat}{g:Array Value}{l:Bool}(h:w.heap[x]? =some (.chan i g m a b l))(c j k:Nat)(d:Array Value)(e f:Bool):fH x w {w with heap:=w.heap.setIfInBounds x (.chan c d e j k f)} where
 same y hy:=YS
 size:=YR
 tape:=rfl
 chan:=⟨_,_,_,_,_,_,h⟩
 Oc:=⟨c,d,e,j,k,f,YS⟩
 oo:=⟨R,R⟩
theorem fH.keep (h:fH x w w')(a: ¬F.rd x/\ ∀k,¬F.cl x k):dD F w w' where
 same b hb:=h.same b λe=>a.1 (e▸hb)
 size:=by rw[h.size];omega
 kind b c e f hb:=by
  have:b≠x:=λe=>by subst e;obtain ⟨_,_,_,_,_,_,d⟩:=h.chan;grind
  exact ⟨c,f,by rw[h.same b this];exact hb⟩
 tape:=h.tape
 cell b i c e f hi hb:=⟨c,by rw[h.same b λe=>a.2 i (e▸hi)];exact hb,R,R⟩
def ml (A b:Nat->ff):Prop:= ∀k,(b k).ph=(A k).ph\/ ∃a s,(A k).ph= .work false [] (a::s)/\(b k).ph= .work false [] s
variable {A:Nat->ff}
theorem ml.facts (h:ml A A')(k:Nat):(A' k).ph.gz=(A k).ph.gz/\(A' k).ph.nL=(A k).ph.nL/\(A' k).ph.ck=(A k).ph.ck/\((A' k).ph.last↔(A k).ph.last)/\(A' k).ph.db=(A k).ph.db/\((A' k).ph= .gO↔(A k).ph= .gO)/\(∀b,(A' k).ph= .load b↔(A k).ph= .load b)/\(∀b,(A' k).ph= .wP b↔(A k).ph= .wP b)/\((A' k).ph= .gD↔(A k).ph= .gD)/\((A' k).ph= .joined↔(A k).ph= .joined)/\((A' k).ph= .gone↔(A k).ph= .gone)/\((A' k).ph= .en↔(A k).ph= .en)/\((A' k).ph= .eo↔(A k).ph= .eo)/\((A' k).ph= .cu↔(A k).ph= .cu):=by
 rcases h k with h | ⟨a,s,c,d⟩
 ·grind
 ·rw[c,d];simp[Ph.gz,Ph.nL,Ph.ck,Ph.last,Ph.db]
theorem ml.Vn (h:ml A A'):Vn n0 n A'=Vn n0 n A:=by
 unfold Go.Proofs.Ytheopdnafbkhpaa.Vn;rw[(h.facts 0).2.1];congr 1
 exact B2 λk _=>by rw[(h.facts k).1]
theorem ml.yl (h:ml A A')(k:fG i n A):fG i n A':=λj a b c=>k j a b ((h.facts j).2.2.2.1.1 c)
theorem po.FT (t:po E n0 n A w)(h:ml A A')(u:v.heap[E.Wg]? =w.heap[E.Wg]?):po E n0 n A' v:=by
 have D:=h.Vn (n0:=n0) (n:=n);have p: ∀ {r s:Int},WgAt E.ty E.Wg w r s->WgAt E.ty E.Wg v r s:=λh=>u.trans h;obtain ⟨F,G,H,I,J,i,K,L,M,x,y,_⟩:=h.facts 0;cases t with
 | plain d m g f o l=>exact .plain (λe=>d (i.1 e)) (λb e=>YS) (λb e=>YS) (λe=>YS) YS (h.yl l)
 | wait d m g f=>exact .wait (i.2 d) YP YS (h.yl f)
 | fx k d m g f o l q=>obtain ⟨_,_,_,_,_,_,_,_,_,_,_,z,B,_⟩:=h.facts k;exact .fx k (i.2 d) YP (p g) f o (l.imp z.2 B.2) λj a b c=>q j a b ((h.facts j).2.2.2.1.1 c)
 | cu k d m g f o l q=>obtain ⟨_,_,_,_,_,_,_,_,_,_,_,_,_,C⟩:=h.facts k;exact .cu k (i.2 d) YP (p g) f o (C.2 l) λj a b c=>q j a b ((h.facts j).2.2.2.1.1 c)
 | post d m g f=>exact .post (i.2 d) YP (p g) (h.yl f)
theorem lV {u:D4}(e: ∀a∈u,a.act.touch? =none)(f:t.size<=i): ¬ (t ++ u).counts i:=by rintro ⟨y,b,_⟩;obtain ⟨a,c,d⟩:=q5 b;grind
theorem Inv.JO (I:Inv P E a n c w t A C)(d:gs'.size=c.size)(f: ∀k,(A' k).F=(A k).F/\(A' k).r=(A k).r/\(A' k).lg=(A k).lg/\(A' k).L=(A k).L)(p:ml A A')(V:(A 0).r Z=S W)(F:fH W w v)
  (hu: ∀r∈u,(∀Q,r.act≠ .mark (.release Q))/\r.act.low w.heap.size)(a2:mh (uv E) (WA A) (ri A) (t ++ u))(J: ∀r∈u,r.g=0\/n<=r.g\/r.act.touch? =none)(X: ∀k q,n<=k->k<c.size->(A k).ph.ck=true->D5 (stA E.Wg) t k q->D5 (stA E.Wg) (t ++ u) k q)(a7: ∀r∈u,r.g<c.size)(K: ∀k,k8 (t ++ u) k=k8 t k)(a3: ∀ (k:Nat) g,gs'[k]? =S g->xf P E a k (A' k) (k8 t k) g v)
  (L: ∀x y,(A 0).r x=S y-> ∃Q b,v.heap[y]? =S (.chan 0 #[] (C' x) Q b false))(a4: ∀x,(A 0).r x=none->C' x=false)
  (Y:eG (dN c.size A',λx=>C' x=true))(a5:One (dN c.size A'))(a0:iA (dN c.size A'))(a6:Jo (dN c.size A',λx=>C' x=true))
  (a1: ∀ (i j:Nat) gi gj W a8 z z' q,gs'[i]? =S gi->gs'[j]? =S gj->gi=j8 (bare gi) #[n5 W a8 z] .send->gj=j8 (bare gj) #[n8 W z'] (.recv q)->False)
  (N: ∀o,gs'[0]? =S o->o.status= .blocked->(A' 0).ph= .gO->c[0]? =S o):Inv P E a n gs' v (t ++ u) A' C':=by
 have a9:WA A'=WA A:=by funext k l;unfold WA;rw[(f k).1]
 have b0:ri A'=ri A:=by funext k l;unfold ri;rw[(f k).1,(f 0).2.1]
 have O:=λG=>F.same _ λe=>I.Jk G V e.symm;have M:=I.mem;have hM:Mem E A' v:=⟨λk=>by rw[(f k).1];exact M.eZ k,λk=>by rw[(f k).1,F.size];exact M.low k,λk=>by rw[(f k).1,F.size];exact M.lr k,λk=>by rw[(f k).1];exact M.own k,λk l=>by rw[(f k).1,(f l).1];exact M.apart k l,
  λk=>by rw[(f k).1];exact M.out k,λk=>by rw[(f k).1,(f 0).2.1];exact M.chan k,M.wg,by rw[F.size];exact M.slow,λk=>by rw[(f k).1];exact M.pure k,M.wT,λx b=>by rw[(f 0).2.1];exact M.tY x b,by rw[F.size];exact M.vG⟩
 constructor
 ·exact I.eu
 ·rw[d];exact I.le
 ·grind
 ·intro k H;rw[d]at H;rw[(f k).1];exact I.MR k H
 ·intro k H;rw[d]at H;rw[K];exact I.hear k H
 ·intro k B m;rw[(f k).1];exact ⟨(p.facts k).2.2.2.2.2.2.2.2.2.2.1.2 (I.old k B m).1,(I.old k B m).2⟩
 ·rw[(p.facts 0).2.2.1];exact I.main
 ·intro k B m;rw[d]at m;rcases p k with h | ⟨Q,s,_,T⟩
  ·rw[h];exact I.wk k B m
  grind
 ·exact ⟨λG=>by obtain ⟨st,sm,h⟩:=I.ok.1 G;exact ⟨st,sm,(O G).trans h⟩,Sx.dR I.ok.2 (by rw[F.size];omega) (λb hb=>F.same b λe=>by have:=I.mem.tY _ _ V;omega) F.oo⟩
 ·exact hM
 ·grind
 ·rw[F.size];exact z7 I.low λr D=>(hu r D).2
 ·intro r D;rw[d];rcases Array.mem_append.1 D with h | h
  ·exact I.gl r h
  grind
 ·exact I.hand.app J
 ·intro k B m T;rw[d]at m;rw[(p.facts k).2.2.1]at T;obtain ⟨q,hq⟩:=I.rel k B m T;grind
 ·exact λQ=>(I.norel Q).app λr D=>(hu r D).1 _
 ·intro G;rw[d];exact (I.wg G).FT p (O G)
 ·intro G o hg hs hp h;exact I.Cc G o (N o hg hs hp) hs ((p.facts 0).2.2.2.2.2.1.1 hp) ((O G).symm.trans h)
 ·rw[(f 0).2.1];exact L
 ·rw[(f 0).2.1];exact I.inj
 ·intro k H x y hy;rw[d]at H;rw[(f k).2.1]at hy;rw[(f 0).2.1];exact I.pB k H x y hy
 ·grind
 ·grind
 ·grind
 ·grind
 ·grind
 ·exact a1
 ·intro k B m;rw[d]at m;rw[(f 0).2.2.1,(f k).2.2.2];exact I.Lu k B m
 ·rw[(f 0).2.2.1,d];exact I.It
 ·intro k B m;rw[d]at m;rw[(f k).2.2.2];exact I.ra k B m
 ·intro k B m T;rw[d]at m;rw[(p.facts k).2.2.1]at T;rw[(f k).2.2.2,(f k).1];exact I.ra k B m _ _ _ (F.keep (M.chan k Z W V)) (I.left k B m T)
 ·rw[d,(p.facts 0).2.2.2.2.1];exact I.few
theorem Inv.FT (I:Inv P E a n0 c w t A C)(G:gs'.size=c.size)(O: ∀k,(A' k).F=(A k).F/\(A' k).r=(A k).r/\(A' k).lg=(A k).lg/\(A' k).L=(A k).L)(H:ml A A')(Q:(A 0).r W=S n)(T:fH n w v)
  (F: ∀e∈u,e.act.touch? =none/\(∀J,e.act≠ .mark (.release J))/\e.act.low w.heap.size)(K: ∀e∈u,e.g<c.size)(h: ∀k,k8 (t ++ u) k=k8 t k)(s: ∀ (k:Nat) g,gs'[k]? =S g->xf P E a k (A' k) (k8 t k) g v)
  (l: ∀f y,(A 0).r f=S y-> ∃J b,v.heap[y]? =S (.chan 0 #[] (C' f) J b false))(x: ∀f,(A 0).r f=none->C' f=false)
  (m:eG (dN c.size A',λf=>C' f=true))(B:One (dN c.size A'))(p:iA (dN c.size A'))(D:Jo (dN c.size A',λf=>C' f=true))
  (L: ∀ (i j:Nat) M N n V z X q,gs'[i]? =S M->gs'[j]? =S N->M=j8 (bare M) #[n5 n V z] .send->N=j8 (bare N) #[n8 n X] (.recv q)->False)
  (r: ∀o,gs'[0]? =S o->o.status= .blocked->(A' 0).ph= .gO->c[0]? =S o):Inv P E a n0 gs' v (t ++ u) A' C':=
 I.JO G O H Q T (λe d=>(F e d).2) (I.led.mute λe d=>(F e d).1) (λe d=> .inr (.inr (F e d).1)) (λ_ _ _ _ _ Y=>Y.app λ_ Z _=>lV (λe d=>(F e d).1) Z) K h s l x m B p D L r
end
end
section
open Go.ConcR (KK WgAt stA smA rd wr)
section
variable {P:Program}{E:Env}{w:World}{A:Nat->ff}{x:Nat}{o:Goroutine}{sl:Option (Nat×Nat)}
variable {A:Nat->ff}
theorem dU (h:i<n){a:List (List Ak)}(b:(A i).ph= .work m a s):dN n A i=s:=by unfold dN;rw[if_pos h,b];rfl
structure RI (P:o8)(E:Env)(A:Nat->ff)(w:World)(x k:Nat)(o:j0)(c q:Nat)(s:List Ak)(v z:l9):Prop where
 ph:(A k).ph= .work false [] (.send c q::s)
 r:(A k).r c=S x
 eq:o=j8 (bare o) #[n5 x v z] .send
 st: ∀w1,RK E (A k).K w w1->j2 P (k==0) (bare o) w1= .comm (bare o) #[n5 x v z] true .send w1 #[]
structure AtR (P:o8)(E:Env)(A:Nat->ff)(w:World)(x k:Nat)(o:j0)(c:Nat)(a:Ak)(s:List Ak)(q:Bool)(z:l9):Prop where
 ph:(A k).ph= .work false [] (a::s)
 head:a= .over c\/ ∃k,a= .recv c k
 r:(A k).r c=S x
 eq:o=j8 (bare o) #[n8 x z] (.recv q)
 st: ∀w1,RK E (A k).K w w1->j2 P (k==0) (bare o) w1= .comm (bare o) #[n8 x z] true (.recv q) w1 #[]
theorem Inv.zR (I:Inv P E a n c w t A C)(m:c[i]? =S g)(x:Nat):(r8 g x true= []/\ ∀v z,g≠j8 (bare g) #[n5 x v z] .send)\/(r8 g x true= [0]/\ ∃d q s v z,RI P E A w x i g d q s v z):=by
 have o:g.status≠ .blocked->(r8 g x true= []/\ ∀v z,g≠j8 (bare g) #[n5 x v z] .send):=λh=>⟨v7 h _ _,λv z e=>h (by rw[e];rfl)⟩;cases I.sit i g m with
 | gone p r=>obtain ⟨q,_,u⟩:=cI p r;exact .inl (o (by rcases u.status with h | h<;>rw[h]<;>simp))
 | run _ _ h=>grind
 | gO _ _ h=>refine .inl ⟨by rw[h];rfl,λv z e=> ?_⟩;rw[h]at e;have:=congrArg j9 e;simp[j8,bare]at this
 | fy _ h=>
  cases h with
  | send d q y s v z f j b k B=>
   by_cases l:y=x
   ·subst l;exact .inr ⟨by rw[b,q6,if_pos R],d,q,s,v,z,f,j,b,k⟩
   ·refine .inl ⟨by rw[b,q6,if_neg l],λD F e=> ?_⟩;rw[e]at b;have:=congrArg j9 b;simp[j8,bare,n5]at this;omega
  | recv d y H s q z f G j b k B=>refine .inl ⟨by rw[b,offersAt_parked_recv'],λD F e=> ?_⟩;rw[e]at b;have:=congrArg j9 b;simp[j8,bare,n5,n8]at this
theorem Inv.zQ (I:Inv P E a n c w t A C)(p:c[i]? =S g)(x:Nat):(r8 g x false= []/\ ∀q z,g≠j8 (bare g) #[n8 x z] (.recv q))\/(r8 g x false= [0]/\ ∃d f s q z,AtR P E A w x i g d f s q z):=by
 have r:g.status≠ .blocked->(r8 g x false= []/\ ∀q z,g≠j8 (bare g) #[n8 x z] (.recv q)):=λh=>⟨v7 h _ _,λv z e=>h (by rw[e];rfl)⟩;cases I.sit i g p with
 | gone u B=>obtain ⟨q,_,D⟩:=cI u B;exact .inl (r (by rcases D.status with h | h<;>rw[h]<;>simp))
 | run _ _ h=>grind
 | gO _ _ h=>refine .inl ⟨by rw[h];rfl,λv z e=> ?_⟩;rw[h]at e;have:=congrArg j9 e;simp[j8,bare]at this
 | fy _ h=>
  cases h with
  | send d q y s v z k l b m F=>refine .inl ⟨by rw[b,offersAt_parked_send'],λG H e=> ?_⟩;rw[e]at b;have:=congrArg j9 b;simp[j8,bare,n5,n8]at this
  | recv d y f s q z k j l b m F=>
   by_cases o:y=x
   ·subst o;exact .inr ⟨by rw[b,q7,if_pos R],d,f,s,q,z,k,j,l,b,m⟩
   ·refine .inl ⟨by rw[b,q7,if_neg o],λG H e=> ?_⟩;rw[e]at b;have:=congrArg j9 b;simp[j8,bare,n8]at this;omega
theorem Inv.EI (I:Inv P E a i c w t A C)(d x:Nat):(C7 (c.setIfInBounds d w9) x false= []/\ ∀k g q z,k≠d->c[k]? =S g->g≠j8 (bare g) #[n8 x z] (.recv q))\/
  ∃n g j r s q z,n≠d/\c[n]? =S g/\AtR P E A w x n g j r s q z/\C7 (c.setIfInBounds d w9) x false= [(n,0)]:=by
 by_cases h: ∃n g,n≠d/\c[n]? =S g/\r8 g x false≠ []
 ·obtain ⟨n,g,F,l,L⟩:=h;rcases I.zQ l x with ⟨G,_⟩ | ⟨G,j,r,s,q,z,p⟩
  ·grind
  ·refine .inr ⟨n,g,j,r,s,q,z,F,l,p,?_⟩;rw[partners_one (stand_get F l) λk y u v=> ?_,G];·rfl
   ·rcases getElem?_stand c d k y v with ⟨_,rfl⟩ | ⟨B,o⟩
    ·rfl
    ·rcases I.zQ o x with ⟨M,_⟩ | ⟨_,f,V,W,X,Y,D⟩
     ·exact M
     ·exfalso;have H:n<c.size:=YS;have J:k<c.size:=YS;have N:=I.inj f j x (I.pB k J f x D.r) (I.pB n H j x p.r);subst N;have K: ∀ {m:Nat}{b:Ak}{s:List Ak},m<c.size->(A m).ph= .work false [] (b::s)->(b= .over f\/ ∃k,b= .recv f k)->recvs (dN c.size A m) f:=λO Q T=>by rw[dU O Q];exact ⟨_,List.mem_cons_self,T.symm⟩
      exact u (I.one.rcv k n f (K J D.ph D.head) (K H p.ph p.head))
 ·refine .inl ⟨partners_nil λk y v=> ?_,λk g q z u l e=>h ⟨k,g,u,l,?_⟩⟩
  ·rcases getElem?_stand c d k y v with ⟨_,rfl⟩ | ⟨B,o⟩
   ·exact offersAt_ph _ _
   grind
  ·rw[e,q7,if_pos R];simp
theorem Inv.vQ (I:Inv P E a i c w t A C)(b x:Nat):(C7 (c.setIfInBounds b w9) x true= []/\ ∀k g v z,k≠b->c[k]? =S g->g≠j8 (bare g) #[n5 x v z] .send)\/
  ∃n g d q s v z,n≠b/\c[n]? =S g/\RI P E A w x n g d q s v z/\C7 (c.setIfInBounds b w9) x true= [(n,0)]:=by
 by_cases h: ∃n g,n≠b/\c[n]? =S g/\r8 g x true≠ []
 ·obtain ⟨n,g,u,f,H⟩:=h;rcases I.zR f x with ⟨B,_⟩ | ⟨B,d,J,s,q,z,l⟩
  ·grind
  ·refine .inr ⟨n,g,d,J,s,q,z,u,f,l,?_⟩;rw[partners_one (stand_get u f) λk y m o=> ?_,B];·rfl
   ·rcases getElem?_stand c b k y o with ⟨_,rfl⟩ | ⟨p,j⟩
    ·rfl
    ·rcases I.zR j x with ⟨K,_⟩ | ⟨_,r,M,N,O,Q,D⟩
     ·exact K
     ·exfalso;have F:n<c.size:=YS;have G:k<c.size:=YS;have L:=I.inj r d x (I.pB k G r x D.r) (I.pB n F d x l.r);subst L;exact m (I.one.snd k n r (eh (dU G D.ph)|>λh=>h) (eh (dU F l.ph) |>λh=>h))
 ·refine .inl ⟨partners_nil λk y o=> ?_,λk g q z m f e=>h ⟨k,g,m,f,?_⟩⟩
  ·rcases getElem?_stand c b k y o with ⟨_,rfl⟩ | ⟨p,j⟩
   ·exact offersAt_ph _ _
   grind
  ·rw[e,q6,if_pos R];simp
variable {D:ff}
theorem lh {a:Ak}(h:i<n)(d:(A i).ph= .work false [] (a::s))(c:D.ph= .work false [] s):dN n (l7 A i D)=aO (dN n A) i s:=by
 funext k;have e:(l7 A i D 0).ph.db=(A 0).ph.db:=by
  by_cases h:(0:Nat)=i
  ·subst h;rw[h9,c,d];rfl
  ·rw[j3 _ _ h]
 by_cases b:k=i
 ·subst b;rw[cn,dU h (by rw[h9];exact c)]
 ·rw[aD _ _ b];unfold dN;rw[j3 _ _ b,e]
theorem fH.refl (h: ∃c d e a b f,w.heap[i]? =S (.chan c d e a b f)):fH i w w:=⟨λ_ _=>rfl,R,R,h,h,R,R⟩
theorem gx(h:(c.setIfInBounds i g)[n]? =S J):(n=i/\J=g)\/(n≠i/\c[n]? =S J):=by grind
theorem Inv.waits (I:Inv P E a n c w t A C)(N:c[i]? =S g)(o:g.status= .running){h:Array E5}{p:A1}(F:j2 P (i==0) g w= .comm (bare g) h true p w #[])(G: ∀X∈h,NoWays w (c.setIfInBounds i w9) X)
  (Y:eE P E a i (A i) (k8 t i) (bare g) w)(H:pg P E i (A i) (j8 (bare g) h p) w)(Z:(A i).ph≠ .gO)(O:(A 0).r W=S x)
  (r: ∀k s y v z j q,k≠i->c[k]? =S s->(j8 (bare g) h p=j8 (bare g) #[n5 y v z] .send->s≠j8 (bare s) #[n8 y j] (.recv q))/\(j8 (bare g) h p=j8 (bare g) #[n8 y j] (.recv q)->s≠j8 (bare s) #[n5 y v z] .send))
  :oG P E a n c w t A i sl:=by
 have a0:i<c.size:=YS;have D:bare (j8 (bare g) h p)=bare g:=rfl;refine ⟨_,_,_,A,C,crowd_waits N F G,?_,.run R YR (vZ N o (by simp[j8]))⟩;obtain ⟨a1,b,K⟩:=I.chan W x O;refine I.FT YR (λk=>⟨R,R,R,R⟩) (λk=> .inl R) O (.refl ⟨_,_,_,_,_,_,K⟩) (λop d=>by simp[j5]at d) (λop d=>by simp[j5]at d) (λk=>by simp[j5]) (λk J L=> ?_) I.chan I.Ev I.lR I.one I.once I.zr ?_ ?_
 ·rcases gx L with ⟨rfl,rfl⟩ | ⟨_,L⟩
  ·exact .fy (by rw[D];exact Y) H
  ·exact I.sit k J L
 ·intro k l Q T y v z j q hk V m e;rcases gx hk with ⟨rfl,rfl⟩ | ⟨M,u⟩
  ·rcases gx V with ⟨rfl,rfl⟩ | ⟨B,f⟩
   ·rw[D]at m e;rw[m]at e;have:=congrArg j9 e;simp[j8,n5,n8]at this
   ·rw[D]at m;exact (r l T y v z j q B f).1 m e
  ·rcases gx V with ⟨rfl,rfl⟩ | ⟨B,f⟩
   ·rw[D]at e;exact (r k Q y v z j q M u).2 e m
   ·exact I.nb k l Q T y v z j q u f m e
 grind
end
end
section
open Go.ConcR (KK WgAt stA smA rd wr)
section
variable {T:Tr}{r:ca}{z:Value}
theorem bX.Fp (h:bX P E m b L a T i r j (.work false [] (.send n W::s)) F g w)(q:RK E F w w)(o:j2 P m g w= .comm g #[n5 Z N z] true .send w #[]):
  ∃f,T= .node f/\E.V n W N/\ ∀p,RK E F w p->bX P E m b L a (f p 0 U) i r j (.work false [] s) F (l2 g U) p:=by
 cases h with
 | step x d e k c=>grind
 | mute y l d e k c=>grind
 | disable l d e k c=>grind
 | enable l d e k c=>grind
 | said t l u A d e k c=>grind
 | make B C l d e k c v=>grind
 | @send f _ _ _ _ _ _ _ _ _ D G H l d e k c v=>have h:=c w q;rw[o]at h;simp only[F8,n5,Array.mk.injEq,List.cons.injEq,F4,s5]at h;grind
theorem bX.EW{p:Bool}(h:bX P E m b L a T i r j (.work false [] (.recv n Z::s)) F g w)(v:RK E F w w)(q:j2 P m g w= .comm g #[n8 W z] true (.recv p) w #[]):
  ∃f,T= .node f/\ ∀o N,RK E F w o->E.V n Z N->bX P E m b L a (f o 0 N) i r j (.work false [] s) F (l2 g (D7 p N true)) o:=by
 cases h with
 | step x c d e k=>grind
 | mute y l c d e k=>grind
 | disable l c d e k=>grind
 | enable l c d e k=>grind
 | said t l u A c d e k=>grind
 | make B C l c d e k D=>grind
 | @recv f _ _ _ _ _ _ _ _ _ G H I l c d e k=>grind
end
section
variable {gs':Array Goroutine}{u:Trace}{A':Nat->ff}
theorem LM(h:w.heap[i]? =S (.chan 0 #[] m n W false))(a:m=false):Cy w i:=⟨_,_,_,_,_,by rw[h,a]⟩
variable {A:Nat->ff}
theorem Inv.others (I:Inv P E a i c w t A C)(o:(A 0).r W=S n)(k:fH n w v)(z:Cy w n->Cy v n)(r:c[Z]? =S g):xf P E a Z (A Z) (k8 t Z) g v:=by
 have B:Z<c.size:=YS;have p:E.ok v:=⟨λh=>by obtain ⟨s,u,x⟩:=I.ok.1 h;exact ⟨s,u,(k.same _ λe=>I.Jk h o e.symm).trans x⟩,Sx.dR I.ok.2 (by rw[k.size];omega) (λb D=>k.same b λe=>by have:=I.mem.tY _ _ o;omega) k.oo⟩;have j: ∀y,Cy w y->Cy v y:=λy l=>by
  by_cases e:y=n
  ·grind
  ·obtain ⟨q,b,m,d,f,h⟩:=l;exact ⟨q,b,m,d,f,by rw[k.same y e];exact h⟩
 exact (I.sit Z g r).other ⟨(k.keep (I.mem.chan Z W n o)).sub (A Z).kh,p⟩ (λm y _ l=>by obtain ⟨q,b,m,d,f,h⟩:=j y l;grind) (.inl ⟨R,λm y _ l=>j y l⟩)
theorem Inv.Ca (I:Inv P E a i c w t A C)(f:(A 0).r W=S n)(d:fH n w v)(k:Nat):RK E (A k).K w v:=
 ⟨(d.keep (I.mem.chan k W n f)).sub (A k).kh,⟨λh=>by obtain ⟨g,j,l⟩:=I.ok.1 h;exact ⟨g,j,(d.same _ λe=>I.Jk h f e.symm).trans l⟩,Sx.dR I.ok.2 (by rw[d.size];omega) (λb m=>d.same b λe=>by have:=I.mem.tY _ _ f;omega) d.oo⟩⟩
variable {D:ff}
theorem Inv.meet (I:Inv P E a i c w t A C){e k:Nat}{K:List Ak}{N:j0}{O Q:Tr}(f:W≠Z)(V:W<c.size)(X:Z<c.size)(pa:(A W).ph= .work false [] (.send e k::s))(pb:(A Z).ph= .work false [] (.recv e k::K))(Y:(A 0).r e=S n)
  {sa sb:Nat}(p:w.heap[n]? =S (.chan 0 #[] false sa sb false))(hC:C e=false)(r:v={w with heap:=w.heap.setIfInBounds n (.chan 0 #[] false (sa + 1) (sb + 1) false)})
  (fa:bX P E (W==0) (qF P E W) (A W).L (jc a W) O (k8 t W) (A W).r (A W).lg (.work false [] s) (A W).F J v)(L:Up J)(fb:bX P E (Z==0) (qF P E Z) (A Z).L (jc a Z) Q (k8 t Z) (A Z).r (A Z).lg (.work false [] K) (A Z).F N v)(M:Up N)
  (x:gs'.size=c.size)(m: ∀l g,gs'[l]? =S g->(l=W/\g=J)\/(l=Z/\g=N)\/(l≠W/\l≠Z/\c[l]? =S g))
  (hu: ∀B∈u,B.act.touch? =none/\(∀W,B.act≠ .mark (.release W))/\B.act.low w.heap.size)(a0: ∀B∈u,B.g<c.size)(o: ∀k,k8 (t ++ u) k=k8 t k)(a1:Tr.lt O (A W).T)(a2:Tr.lt Q (A Z).T):
  ∃A',Inv P E a i gs' v (t ++ u) A' C/\Gr gs' A' c A:=by
 let b:={A W with T:=O,ph:= .work false [] s};let d:={A Z with T:=Q,ph:= .work false [] K};have hO:fH n w v:=by rw[r];exact .set p ..
 have F:v.heap[n]? =S (.chan 0 #[] false (sa + 1) (sb + 1) false):=by rw[r];simp[Array.getElem?_setIfInBounds_self_of_lt (cZ p)]
 have eA: ∀l,l7 (l7 A W b) Z d l=if l=Z then d else if l=W then b else A l:=λl=>by rfl
 have a3: ∀l,(l7 (l7 A W b) Z d l).F=(A l).F/\(l7 (l7 A W b) Z d l).r=(A l).r/\(l7 (l7 A W b) Z d l).lg=(A l).lg/\(l7 (l7 A W b) Z d l).L=(A l).L:=YS;have hD:ml A (l7 (l7 A W b) Z d):=λl=>by grind
 have hS:dN c.size (l7 (l7 A W b) Z d)=aO (aO (dN c.size A) W s) Z K:=by rw[lh X (by rw[j3 _ _ (Ne.symm f)];exact pb) R,lh V pa R]
 have j:AS (dN c.size A,λe=>C e=true) (dN c.size (l7 (l7 A W b) Z d),λe=>C e=true):=by rw[hS];exact .comm f (dU V pa) (dU X pb)
 refine ⟨l7 (l7 A W b) Z d,?_,?_⟩
 ·refine I.FT x a3 hD Y hO hu a0 o (λl g ho=> ?_) (λc' y hy=> ?_) I.Ev (I.lR.any I.one j) (I.one.step j) (I.once.step j) (I.zr.step I.one I.once j) (λl l' gl G y a5 z z' q hl a4 e1 e2=> ?_) (λg ho hs hp=> ?_)
  ·rcases m l g ho with ⟨rfl,rfl⟩ | ⟨rfl,rfl⟩ | ⟨h1,h2,h3⟩
   ·rw[eA,if_neg f,if_pos R];refine .run (by simp[b]) ?_ L.1;rw[L.bare];exact fa
   ·rw[eA,if_pos R];refine .run (by simp[d]) ?_ M.1;rw[M.bare];exact fb
   ·rw[eA,if_neg h2,if_neg h1];exact I.others Y hO (λ_=>LM F R) h3
  ·by_cases H:y=n
   ·subst H;have:=I.inj c' e y hy Y;subst this;exact ⟨_,_,by rw[F,hC]⟩
   ·obtain ⟨a',b',h⟩:=I.chan c' y hy;exact ⟨a',b',by rw[hO.same y H];exact h⟩
  ·rcases m l gl hl with ⟨_,rfl⟩ | ⟨_,rfl⟩ | ⟨_,_,h3⟩
   ·exact L.fy _ _ _ e1
   ·exact M.fy _ _ _ e1
   ·rcases m l' G a4 with ⟨_,rfl⟩ | ⟨_,rfl⟩ | ⟨_,_,h4⟩
    ·exact L.fy _ _ _ e2
    ·exact M.fy _ _ _ e2
    ·exact I.nb l l' gl G y a5 z z' q h3 h4 e1 e2
  grind
 ·refine .tree (by rw[(hD.facts 0).2.2.2.2.1]) ?_;rw[x];refine .tail (.single (fl (A:=l7 A W b) (D:=d) X ?_)) (fl V a1);rw[j3 _ _ (Ne.symm f)];exact a2
end
end
section
open Go.ConcR (KK WgAt stA smA rd wr)
section
variable {gs':Array Goroutine}{u:Trace}{A':Nat->ff}{x:Nat}{sl:Option (Nat×Nat)}
theorem fW (b: ∀a∈u,a.act≠ .mark .disable/\a.act≠ .mark .enable)(k:Nat):Deaf (t ++ u) k=Deaf t k:=by
 obtain ⟨l⟩:=u;rw[Deaf_append];generalize Deaf t k=d;induction l generalizing d with
 | nil=>rfl
 | cons y l g=>
  rw[List.foldl_cons];have e:deafStep k d y=d:=by
   obtain ⟨c,f⟩:=b y YR;unfold deafStep;split
   ·rename_i h;exact absurd h c
   ·rename_i h;exact absurd h f
   ·rfl
  simp_all
def ux (x:Nat)(a:u4):Prop:=(∃s,a.act= .send x s)\/(∃s,a.act= .sendDone x s)\/(∃s c,a.act= .recv x s c)\/(∃s,a.act= .recvDone x s)\/a.act= .recvClosed x
theorem ux.facts {b:u4}(h:ux i b)(d:i<n):(b.act.touch? =none/\(∀a,b.act≠ .mark (.release a))/\b.act.low n)/\b.act≠ .mark .disable/\b.act≠ .mark .enable:=by rcases h with ⟨s,h⟩ | ⟨s,h⟩ | ⟨s,c,h⟩ | ⟨s,h⟩ | h<;>rw[h]<;>exact ⟨⟨R,YR,d⟩,YR,YR⟩
variable {A:Nat->ff}
theorem Inv.sA(a:(A i).ph= .work false [] s):(A i).K=(A i).F:=ff.mu (by rw[a];rfl)
variable {D:ff}
theorem eE.nx(h:xf P E a i D n g w)(b:D.ph≠ .gone):eE P E a i D n (bare g) w:=by
 cases h with
 | gone h=>grind
 | run _ h=>exact h
 | gO _ h=>exact h
 | fy h=>exact h
theorem jF (g:j0)(v:l9):Up (l2 g v):=⟨R,R⟩
theorem An(b:i≠n)(e:i<c.size)(f:n<c.size){a:j0}: ∀ (l:Nat) g,((c.setIfInBounds i J).setIfInBounds n a)[l]? =S g->(l=i/\g=J)\/(l=n/\g=a)\/(l≠i/\l≠n/\c[l]? =S g):=by
 intro l g h;rcases gx h with ⟨rfl,rfl⟩ | ⟨j,d⟩
 ·simp
 ·rcases gx d with ⟨rfl,rfl⟩ | ⟨k,m⟩
  ·exact .inl ⟨R,R⟩
  grind
theorem Inv.KH (I:Inv P E a n c w t A C)(hi:c[i]? =S g)(D:g.status= .running){k:Nat}{z:l9}(Q:(A i).ph= .work false [] (.send Z k::s))(hT:(A i).T= .node e)(hr:(A i).r Z=S x)(hv:E.V Z k N)(F:eE P E a i (A i) (k8 t i) (bare g) w)
  (G: ∀o,RK E (A i).K w o->j2 P (i==0) (bare g) o= .comm (bare g) #[n5 x N z] true .send o #[])
  (hf: ∀o,RK E (A i).K w o->bX P E (i==0) (qF P E i) (A i).L (jc a i) (e o 0 U) (k8 t i) (A i).r (A i).lg (.work false [] s) (A i).K (l2 (bare g) U) o):oG P E a n c w t A i sl:=by
 have T:i<c.size:=YS;have B:=I.pB i T Z x hr;obtain ⟨H,K,d⟩:=I.chan Z x B;have p:=dU T Q;have hC:C Z=false:=by
  cases h:C Z with
  | false=>rfl
  | true=>exact absurd (eh p) (I.zr Z h i)
 rw[hC]at d;have m:j2 P (i==0) g w= .comm (bare g) #[n5 x N z] true .send w #[]:=by rw[<-fA];exact G w (I.ox _)
 rcases I.EI i x with ⟨X,a6⟩ | ⟨W,J,Y,a5,s',q,z',r,ho,j,a0⟩
 ·refine I.waits (x:=x) hi D m (λcc L=> ?_) F (.send Z k x s N z Q hr R G ⟨_,_,_,_,_,d⟩) YS B (λl ol y v' z1 z2 q hl a7=>⟨λa1=> ?_,λa1=> ?_⟩)
  ·simp at L;subst L;exact ways_send_none d (k9 _) X
  ·have:y=x:=by have:=congrArg j9 a1;simp[j8,n5]at this;exact this.1.symm
   grind
  ·have:=congrArg j9 a1;simp[j8,n5,n8]at this
 ·have V:W<c.size:=by grind
  have hc:=I.inj Y Z x (I.pB W V Y x j.r) B;subst hc;have M:=dU V j.ph;rcases j.head with rfl | ⟨k',rfl⟩
  ·exact (I.lR.apart I.one I.once I.zr p M).elim
  ·have hk:=I.lR.same I.one p M;subst hk;have a2:c[W]? =S (j8 (bare J) #[n8 x z'] (.recv q)):=by rw[<-j.eq];exact ho
   have O:=crowd_send_meets (sl:=sl) hi m d r a2 a0;rw[C0,x4]at O;have hO:fH x w (w.setChan x 0 #[] false (H + 1) (K + 1) false):= .set d ..;obtain ⟨f',a3,a4⟩:=bX.EW (show bX P E (W==0) (qF P E W) (A W).L (jc a W) (A W).T (k8 t W) (A W).r (A W).lg (.work false [] (.recv Y k::s')) (A W).K (bare J) w from by have:=eE.nx (I.sit W J ho) (by rw[j.ph];simp);unfold eE at this;rw[j.ph]at this;exact this) (I.ox _) (j.st w (I.ox _));have fa:=hf _ (I.Ca B hO i);have fb:=a4 _ N (I.Ca B hO W) hv;rw[Inv.sA Q]at fa;rw[Inv.sA j.ph]at fb;have hu: ∀v∈MemOp.ofEvents i g.frame.fn g.frame.place #[] ++ #[{g:=i,fn:=(bare g).frame.fn,pos:=(bare g).frame.place,act:= .send x H},{g:=W,fn:=(bare J).frame.fn,pos:=(bare J).frame.place,act:= .recv x K 0},{g:=i,fn:=(bare g).frame.fn,pos:=(bare g).frame.place,act:= .sendDone x H},{g:=W,fn:=(bare J).frame.fn,pos:=(bare J).frame.place,act:= .recvDone x K}],ux x v:=λv f=>by
    simp[MemOp.ofEvents]at f;rcases f with rfl | rfl | rfl | rfl
    ·exact .inl ⟨_,R⟩
    ·exact .inr (.inr (.inl ⟨_,_,R⟩))
    ·exact .inr (.inl ⟨_,R⟩)
    ·exact .inr (.inr (.inr (.inl ⟨_,R⟩)))
   obtain ⟨A',hI,hL⟩:=I.meet (Ne.symm r) T V Q j.ph B d hC R fa (jF _ _) fb (jF _ _) (gs':=(c.setIfInBounds W (l2 (bare J) (D7 q N true))).setIfInBounds i (l2 (bare g) U)) YR
    (λl o' h=>(An r V T l o' h).elim (λh=> .inr (.inl h)) λh=>h.elim .inl λ⟨a5,b,Z⟩=> .inr (.inr ⟨b,a5,Z⟩))
    (u:=MemOp.ofEvents i g.frame.fn g.frame.place #[] ++ #[{g:=i,fn:=(bare g).frame.fn,pos:=(bare g).frame.place,act:= .send x H},{g:=W,fn:=(bare J).frame.fn,pos:=(bare J).frame.place,act:= .recv x K 0},{g:=i,fn:=(bare g).frame.fn,pos:=(bare g).frame.place,act:= .sendDone x H},{g:=W,fn:=(bare J).frame.fn,pos:=(bare J).frame.place,act:= .recvDone x K}])
    (λv f=>((hu v f).facts (cZ d)).1) (λv f=>by simp[MemOp.ofEvents]at f;grind) (fW λv f=>((hu v f).facts (cZ d)).2) (by rw[hT];exact Tr.bE ..) (by rw[a3];exact Tr.bE ..)
   exact ⟨_,_,_,A',C,O,hI,hL⟩
theorem Inv.KG (I:Inv P E a n c w t A C)(hi:c[i]? =S g)(z:g.status= .running){k:Nat}(M:(A i).ph= .work false [] (.recv Z k::s))(hT:(A i).T= .node e)(hr:(A i).r Z=S x)(B:eE P E a i (A i) (k8 t i) (bare g) w)
  (D: ∀o,RK E (A i).K w o->j2 P (i==0) (bare g) o= .comm (bare g) #[n8 x N] true (.recv m) o #[])
  (hf: ∀o v,RK E (A i).K w o->E.V Z k v->bX P E (i==0) (qF P E i) (A i).L (jc a i) (e o 0 v) (k8 t i) (A i).r (A i).lg (.work false [] s) (A i).K (l2 (bare g) (D7 m v true)) o):oG P E a n c w t A i sl:=by
 have O:i<c.size:=YS;have r:=I.pB i O Z x hr;obtain ⟨F,G,b⟩:=I.chan Z x r;have H:=dU O M;have hC:C Z=false:=by
  cases h:C Z with
  | false=>rfl
  | true=>exact absurd h (I.lR.opened I.one I.once I.zr H)
 rw[hC]at b;have f:j2 P (i==0) g w= .comm (bare g) #[n8 x N] true (.recv m) w #[]:=by rw[<-fA];exact D w (I.ox _)
 rcases I.vQ i x with ⟨T,a4⟩ | ⟨W,J,V,k',s',v,z',p,ho,j,X⟩
 ·refine I.waits (x:=x) hi z f (λcc K=> ?_) B (.recv Z x _ s m N M (.inr ⟨k,R⟩) hr R D ⟨_,_,_,_,_,b⟩) YS r (λl ol y v' z1 z2 q' hl a5=>⟨λY=> ?_,λY=> ?_⟩)
  ·simp at K;subst K;exact C8 b T
  ·have:=congrArg j9 Y;simp[j8,n5,n8]at this
  ·have:y=x:=by have:=congrArg j9 Y;simp[j8,n8]at this;exact this.1.1.symm
   grind
 ·have Q:W<c.size:=by grind
  have hc:=I.inj V Z x (I.pB W Q V x j.r) r;subst hc;have a0:=dU Q j.ph;have hk:=I.lR.same I.one a0 H;subst hk;have a1:c[W]? =S (j8 (bare J) #[n5 x v z'] .send):=by rw[<-j.eq];exact ho
  have L:=crowd_recv_meets (sl:=sl) hi f b p a1 X;rw[C0,x4]at L;have hO:fH x w (w.setChan x 0 #[] false (F + 1) (G + 1) false):= .set b ..;obtain ⟨f',a2,hv,a3⟩:=bX.Fp (show bX P E (W==0) (qF P E W) (A W).L (jc a W) (A W).T (k8 t W) (A W).r (A W).lg (.work false [] (.send V k'::s')) (A W).K (bare J) w from by have:=eE.nx (I.sit W J ho) (by rw[j.ph];simp);unfold eE at this;rw[j.ph]at this;exact this) (I.ox _) (j.st w (I.ox _));have fb:=hf _ v (I.Ca r hO i) hv;have fa:=a3 _ (I.Ca r hO W);rw[Inv.sA M]at fb;rw[Inv.sA j.ph]at fa;have hu: ∀q∈MemOp.ofEvents i g.frame.fn g.frame.place #[] ++ #[{g:=W,fn:=(bare J).frame.fn,pos:=(bare J).frame.place,act:= .send x F},{g:=i,fn:=(bare g).frame.fn,pos:=(bare g).frame.place,act:= .recv x G 0},{g:=W,fn:=(bare J).frame.fn,pos:=(bare J).frame.place,act:= .sendDone x F},{g:=i,fn:=(bare g).frame.fn,pos:=(bare g).frame.place,act:= .recvDone x G}],ux x q:=λq d=>by
   simp[MemOp.ofEvents]at d;rcases d with rfl | rfl | rfl | rfl
   ·exact .inl ⟨_,R⟩
   ·exact .inr (.inr (.inl ⟨_,_,R⟩))
   ·exact .inr (.inl ⟨_,R⟩)
   ·exact .inr (.inr (.inr (.inl ⟨_,R⟩)))
  obtain ⟨A',hI,hL⟩:=I.meet p Q O j.ph M r b hC R fa (jF _ _) fb (jF _ _) (gs':=(c.setIfInBounds W (l2 (bare J) U)).setIfInBounds i (l2 (bare g) (D7 m v true))) YR
   (An p Q O)
   (u:=MemOp.ofEvents i g.frame.fn g.frame.place #[] ++ #[{g:=W,fn:=(bare J).frame.fn,pos:=(bare J).frame.place,act:= .send x F},{g:=i,fn:=(bare g).frame.fn,pos:=(bare g).frame.place,act:= .recv x G 0},{g:=W,fn:=(bare J).frame.fn,pos:=(bare J).frame.place,act:= .sendDone x F},{g:=i,fn:=(bare g).frame.fn,pos:=(bare g).frame.place,act:= .recvDone x G}])
   (λq d=>((hu q d).facts (cZ b)).1) (λq d=>by simp[MemOp.ofEvents]at d;grind) (fW λq d=>((hu q d).facts (cZ b)).2) (by rw[a2];exact Tr.bE ..) (by rw[hT];exact Tr.bE ..)
  exact ⟨_,_,_,A',C,L,hI,hL⟩
end
end
section
open Go.ConcR (KK WgAt stA smA rd wr)
section
variable {x:Nat}{o:Goroutine}{es:Array Event}{sl:Option (Nat×Nat)}
variable {A:Nat->ff}{D:ff}
theorem ml.one {a:Ak}(b:(A i).ph= .work false [] (a::s))(c:D.ph= .work false [] s):ml A (l7 A i D):=λl=>by
 by_cases h:l=i
 ·subst h;rw[h9];grind
 ·rw[j3 _ _ h];simp
theorem qo(h:D.F=(A i).F/\D.r=(A i).r/\D.lg=(A i).lg/\D.L=(A i).L)(l:Nat):(l7 A i D l).F=(A l).F/\(l7 A i D l).r=(A l).r/\(l7 A i D l).lg=(A l).lg/\(l7 A i D l).L=(A l).L:=by
 by_cases a:l=i
 ·subst a;rw[h9];exact h
 ·rw[j3 _ _ a];simp
theorem Inv.KI (I:Inv P E a n c w t A C)(X:c[i]? =S g)(o:g.status= .running)(p:(A i).ph= .work false [] (.over Z::s))(hT:(A i).T= .node e)(Y:(A i).r Z=S x)(q:eE P E a i (A i) (k8 t i) (bare g) w)
  (r: ∀j,RK E (A i).K w j->j2 P (i==0) (bare g) j= .comm (bare g) #[n8 x N] true (.recv m) j #[])
  (hf: ∀j,RK E (A i).K w j->bX P E (i==0) (qF P E i) (A i).L (jc a i) (e j 0 undef) (k8 t i) (A i).r (A i).lg (.work false [] s) (A i).K (l2 (bare g) (D7 m N false)) j):oG P E a n c w t A i sl:=by
 have G:i<c.size:=YS;have H:=I.pB i G Z x Y;obtain ⟨sa,sb,b⟩:=I.chan Z x H;have u:=dU G p;have h:j2 P (i==0) g w= .comm (bare g) #[n8 x N] true (.recv m) w #[]:=by rw[<-fA];exact r w (I.ox _)
 rcases I.vQ i x with ⟨z,a0⟩ | ⟨W,J,c',k',s',v,z',a1,K,hR,a2⟩
 ·cases L:C Z with
  | false=>
   rw[L]at b;refine I.waits (x:=x) X o h (λcc B=> ?_) q (.recv Z x _ s m N p (.inl R) Y R r ⟨_,_,_,_,_,b⟩) YS H (λl ol y v' z1 z2 q' hl a3=>⟨λM=> ?_,λM=> ?_⟩)
   ·simp at B;subst B;exact C8 b z
   ·have:=congrArg j9 M;simp[j8,n5,n8]at this
   ·have:y=x:=by have:=congrArg j9 M;simp[j8,n8]at this;exact this.1.1.symm
    grind
  | true=>
   rw[L]at b;have F:=crowd_recv_closed (sl:=sl) X h b z;rw[x4]at F;have hS:dN c.size (l7 A i {A i with T:=e w 0 undef,ph:= .work false [] s})=aO (dN c.size A) i s:=lh G p R;have f:AS (dN c.size A,λZ=>C Z=true) (dN c.size (l7 A i {A i with T:=e w 0 undef,ph:= .work false [] s}),λZ=>C Z=true):=by rw[hS];exact .over u L
   have hD:=ml.one (D:={A i with T:=e w 0 undef,ph:= .work false [] s}) p R;have hu: ∀k∈MemOp.ofEvents i g.frame.fn g.frame.place #[] ++ #[{g:=i,fn:=(bare g).frame.fn,pos:=(bare g).frame.place,act:= .recvClosed x}],ux x k:=λk d=>by simp[MemOp.ofEvents]at d;subst d;exact .inr (.inr (.inr (.inr R)))
   have up:=jF (bare g) (D7 m N false);refine ⟨_,_,_,l7 A i {A i with T:=e w 0 undef,ph:= .work false [] s},C,F,?_,?_⟩
   ·refine I.FT YR (qo ⟨R,R,R,R⟩) hD H (.refl ⟨_,_,_,_,_,_,b⟩) (λk d=>((hu k d).facts (cZ b)).1) (λk d=>by simp[MemOp.ofEvents]at d;grind) (fW λk d=>((hu k d).facts (cZ b)).2) (λl J K=> ?_) I.chan I.Ev (I.lR.any I.one f) (I.one.step f) (I.once.step f) (I.zr.step I.one I.once f) (λl l' gl O y v N z' m hl Q e1 e2=> ?_) (λJ K hs _=> ?_)
    ·rcases gx K with ⟨rfl,rfl⟩ | ⟨h1,h2⟩
     ·rw[h9];refine .run YR ?_ up.1;rw[up.bare];have:=hf w (I.ox _);rw[Inv.sA p]at this;exact this
     ·rw[j3 _ _ h1];exact I.sit l J h2
    ·rcases gx hl with ⟨_,rfl⟩ | ⟨_,V⟩
     ·exact up.fy _ _ _ e1
     ·rcases gx Q with ⟨_,rfl⟩ | ⟨_,h4⟩
      ·exact up.fy _ _ _ e2
      ·exact I.nb l l' gl O y v N z' m V h4 e1 e2
    ·rcases gx K with ⟨_,rfl⟩ | ⟨_,V⟩
     ·rw[up.1]at hs;cases hs
     ·exact V
   ·refine .tree (by rw[(hD.facts 0).2.2.2.2.1]) (.single ?_);rw[show (c.setIfInBounds i (l2 (bare g) (D7 m N false))).size=c.size by simp];exact fl G (by rw[hT];exact Tr.bE ..)
 ·have jl:W<c.size:=by grind
  have hc:=I.inj c' Z x (I.pB W jl c' x hR.r) H;subst hc;exact (I.lR.apart I.one I.once I.zr (dU jl hR.ph) u).elim
theorem Inv.Hy (I:Inv P E a n c w t A C)(hi:c[i]? =some g)(G:(A i).ph= .work false [] (.close Z::s))(hT:(A i).T= .node e)(hr:(A i).r Z=some W)(m:Up J)(hm:mayWake P g=true)(a0:es= #[⟨.obj W,false,true⟩,⟨.obj W,true,true⟩])(a1:k8 t i=0)
  (a2: ∀ (x:World) H K a3 b tm,RK E (A i).K w x->x.heap[W]? =some (.chan H K false a3 b tm)->j2 P (i==0) g x= .go J {x with heap:=x.heap.setIfInBounds W (.chan H K true a3 b tm)} es)
  (hf: ∀x,RK E (A i).K w x->bX P E (i==0) (qF P E i) (A i).L (jc a i) (e x 0 undef) (k8 t i) (A i).r (A i).lg (.work false [] s) (A i).K J x):oG P E a n c w t A i d:=by
 have il:i<c.size:=YS;have F:=I.pB i il Z W hr;obtain ⟨L,M,r⟩:=I.chan Z W F;have N:=dU il G;have hC:C Z=false:=by
  cases h:C Z with
  | false=>rfl
  | true=>exact absurd (oh N) (I.zr Z h i)
 rw[hC]at r;have hO:fH W w {w with heap:=w.heap.setIfInBounds W (.chan 0 #[] true L M false)}:= .set r ..;have O:=a2 w 0 #[] L M false (I.ox _) r;have a4: ∀v,o4 P g J v=(·.again v):=λv=>by funext o;simp[o4,hm,m.1]
 have b0:({w with heap:=w.heap.setIfInBounds W (.chan 0 #[] true L M false)}:World).heap[W]? =some (.chan 0 #[] true L M false):=by simp[Array.getElem?_setIfInBounds_self_of_lt (cZ r)]
 generalize b1:({w with heap:=w.heap.setIfInBounds W (.chan 0 #[] true L M false)}:World)=v at *;have hS:dN c.size (l7 A i {A i with T:=e v 0 undef,ph:= .work false [] s})=aO (dN c.size A) i s:=lh il G R;have a5:(λj=>(if j=Z then true else C j)=true)=mD (λj=>C j=true) Z:=by
  funext j;unfold mD;by_cases h:j=Z
  ·simp[h]
  ·simp[h]
 have B:AS (dN c.size A,λZ=>C Z=true) (dN c.size (l7 A i {A i with T:=e v 0 undef,ph:= .work false [] s}),λj=>(if j=Z then true else C j)=true):=by rw[hS,a5];exact .close N
 have hD:=ml.one (D:={A i with T:=e v 0 undef,ph:= .work false [] s}) G R;subst a0;have hu: ∀u∈MemOp.ofEvents i g.frame.fn g.frame.place #[⟨.obj W,false,true⟩,⟨.obj W,true,true⟩],u.g=i/\(u.act= .access ⟨.obj W,false,true⟩\/u.act= .close W):=λu f=>by
  obtain ⟨a6,he,rfl⟩:=l6 f;simp only[q2,q4,p5,or_false]at he;rcases he with rfl | rfl
  ·exact ⟨R,.inl R⟩
  ·exact ⟨R,.inr R⟩
 have b2:i=0\/n<=i:=by
  rcases Nat.eq_zero_or_pos i with h | h
  ·omega
  ·refine .inr (j4 λQ=> ?_);have:=(I.old i h YP).1;grind
 have rk:=I.Ca F hO i;refine ⟨_,_,_,l7 A i {A i with T:=e v 0 undef,ph:= .work false [] s},λj=>if j=Z then true else C j,runT_crowd_go hi O,?_,?_⟩
 ·refine I.JO YR (qo ⟨R,R,R,R⟩) hD F hO (λu f=>by rcases (hu u f).2 with h | h<;>rw[h]<;>exact ⟨YR,cZ r⟩) (I.led.look I.mem.sep (.inr ⟨Z,W,F,R⟩) a1 _ _) (λu f=>YS) (λk q _ _ hk hq=>hq.appOther (λu f=>(hu u f).1) λa6=>by subst a6;rw[G]at hk;cases hk) (λu f=>YS) (fW λu f=>YS) (λl o ho=> ?_) (λc' y hy=> ?_) (λj hd=> ?_) (I.lR.any I.one B) (I.one.step B) (I.once.step B) (I.zr.step I.one I.once B) (λl l' gl b3 y b4 z z' q hl a7 V e2=> ?_) (λo ho hs _=> ?_)
  ·rcases dB ho with ⟨rfl,rfl,_⟩ | ⟨Q,p,h2,rfl⟩
   ·rw[h9];refine .run YR ?_ m.1;rw[m.bare];have:=hf v rk;rw[Inv.sA G]at this;exact this
   ·rw[j3 _ _ Q,a4];refine (I.sit l p h2).other (I.Ca F hO l) (λc' y _ hy=> ?_) (.inr R);by_cases a6:y=W
    ·grind
    ·obtain ⟨a3,b,c1,j,V,h⟩:=hy;grind
  ·by_cases a8:y=W
   ·subst a8;have:=I.inj c' Z y hy F;grind
   ·have X:c'≠Z:=by grind
    obtain ⟨a',b',h⟩:=I.chan c' y hy;grind
  ·have X:j≠Z:=by grind
   rw[if_neg X];exact I.Ev j hd
  ·rcases dB hl with ⟨_,rfl,_⟩ | ⟨_,p,Y,rfl⟩
   ·exact m.fy _ _ _ V
   ·rcases dB a7 with ⟨_,rfl,_⟩ | ⟨_,p',a9,rfl⟩
    ·exact m.fy _ _ _ e2
    ·have Q:=im V;have h2:=im e2;rw[<-Q]at V;rw[<-h2]at e2;exact I.nb l l' p p' y b4 z z' q Y a9 V e2
  ·rcases dB ho with ⟨_,rfl,_⟩ | ⟨_,p,Y,rfl⟩
   ·rw[m.1]at hs;cases hs
   ·have Q:=ju hs;grind
 ·refine .tree (by rw[(hD.facts 0).2.2.2.2.1]) (.single ?_);rw[fC];exact fl il (by rw[hT];exact Tr.bE ..)
end
end
section
open Go.ConcR (KK WgAt stA smA rd wr)
section
variable {A':Nat->ff}{o:Goroutine}{es:Array Event}{sl:Option (Nat×Nat)}
variable {A:Nat->ff}{D:ff}
theorem Inv.KF (I:Inv P E a n c w t A C)(hi:c[0]? =S g){q:Nat}(hT:(A 0).T= .node e)(hr:(A 0).r q=none)(Y:(A 0).ph≠ .gone)(gi:Nat->j0)(s: ∀Z,Up (gi Z))(o: ∀p∈es,CL p)
  (a0: ∀u,RK E (A 0).F w u->j2 P true g u= .go (gi u.heap.size) {u with heap:=u.heap.push (.chan 0 #[] false 0 0 false)} es)
  (hf: ∀ (u X:World)(Z:Nat),RK E (A 0).F w u->RK E (A 0).F u X->Z=u.heap.size->Z<X.heap.size->bX P E true (qF P E 0) (A 0).L (jc a 0) (e X Z undef) (k8 t 0) ((A 0).r.put q Z) (A 0).lg (A 0).ph (A 0).F (gi Z) X):oG P E a n c w t A 0 d:=by
 have B:=a0 w (I.ox _);have a1:0<c.size:=YS;generalize G:({w with heap:=w.heap.push (.chan 0 #[] false 0 0 false)}:World)=v at B;have j: ∀b,b<w.heap.size->v.heap[b]? =w.heap[b]? :=YS;have L:v.heap[w.heap.size]? =S (.chan 0 #[] false 0 0 false):=by rw[<-G];simp
 have a3:v.heap.size=w.heap.size + 1:=by rw[<-G];simp
 have a2:v.tape=w.tape:=by rw[<-G]
 have N: ∀F:aq,(∀b,F.rd b->b<w.heap.size)->dD F w v:=λF hF=>⟨λb O=>j b (hF b O),YP,λb q p e O=>⟨q,e,YS⟩,a2,λb i q p e _ O=>⟨q,YS,R,R⟩⟩;have Q:E.ok v:=⟨λK=>by obtain ⟨st,sm,h⟩:=I.ok.1 K;exact ⟨st,sm,by unfold WgAt;rw[j _ (cZ h)];exact h⟩,Sx.dR I.ok.2 YP (λb O=>j b (Nat.lt_of_lt_of_le O I.ok.2.1)) ⟨YS,YS⟩⟩;have rk:RK E (A 0).F w v:=⟨N _ (I.mem.low 0),Q⟩;let D:={A 0 with T:=e v w.heap.size undef,r:=(A 0).r.put q w.heap.size};have V:D.ph=(A 0).ph:=rfl;have H:(l7 A 0 D 0).r=(A 0).r.put q w.heap.size:=by rw[h9]
 have x: ∀k,(l7 A 0 D k).F=(A k).F:=λk=>by
  by_cases hk:k=0
  ·subst hk;rfl
  ·rw[j3 _ _ hk]
 have M:=I.mem;have m: ∀f y,(A 0).r.put q w.heap.size f=S y->(f=q/\y=w.heap.size)\/(f≠q/\(A 0).r f=S y):=λf y h=>by unfold ca.put at h;grind
 have hM:Mem E (l7 A 0 D) v:=⟨λk=>by rw[x];exact M.eZ k,λk b h=>by rw[x]at h;have:=M.low k b h;omega,λk b l h=>by rw[x]at h;have:=M.lr k b l h;omega,λk=>by rw[x];exact M.own k,λk l=>by rw[x,x];exact M.apart k l,
  λk=>by rw[x];exact M.out k,λk f b h=>by
   rw[H]at h;rw[x];rcases m f b h with ⟨_,rfl⟩ | ⟨_,h⟩
   ·exact ⟨λh=>by have:=M.low k _ h;omega,λl h=>by have:=M.lr k _ l h;omega⟩
   ·exact M.chan k f b h,M.wg,λb h=>by have:=M.slow b h;omega,λk=>by rw[x];exact M.pure k,M.wT,λf b h=>by
   rw[H]at h;rcases m f b h with ⟨_,rfl⟩ | ⟨_,h⟩
   ·exact M.vG
   ·exact M.tY f b h,by have:=M.vG;omega⟩
 refine ⟨_,_,_,l7 A 0 D,C,o5 hi B,?_,?_⟩
 ·refine I.OR hi (λh=>absurd R h) (λf y h=> ?_) (λf y h=> ?_) (λf d' y h J=> ?_) (λf h=> ?_) R R R R Q (λW _=>N _ (M.low W)) (λf y h=>j y (I.ru h)) hM
   (mP (D:=D) I.led I.low (M.eZ 0) hM (λb=>⟨.inl,.inl,λ_=> .inl⟩) (λf y h=>by rw[H]at h;grind) (λp z=> .mute (o p z).1 (o p z).2.2.2.1) _ _) (λp z=>(o p z).2.2.2.1) YP (λp z=>(o p z).2.2.2.2 _) (.inl R)
   (.run Y ?_ (s _).1) (λ_=>I.main) (λh=>by have:=I.eu;omega) (λh=>absurd h (Nat.lt_irrefl 0)) (λh=>by have:=I.eu;omega) (λK=>(I.wg K).same (jq V) (j _ (M.slow _ (M.wg K)))) (I.oS (λ_ h=>by rw[(s _).1]at h;cases h) (jq V 0) λK _ h1 h2=>h1 ((j _ (M.slow _ (M.wg K))).symm.trans h2)) (λh=>by have:=I.eu;omega) (s _).fy
  ·rw[H];unfold ca.put;grind
  ·rw[H]at h;rcases m f y h with ⟨rfl,rfl⟩ | ⟨_,h⟩
   ·exact ⟨_,_,by rw[L,I.Ev f hr]⟩
   ·obtain ⟨a4,b,h1⟩:=I.chan f y h;grind
  ·rw[H]at h J;rcases m f y h with ⟨rfl,rfl⟩ | ⟨_,h⟩
   ·rcases m d' _ J with ⟨rfl,_⟩ | ⟨_,J⟩
    ·rfl
    ·have:=I.ru J;omega
   ·rcases m d' _ J with ⟨_,rfl⟩ | ⟨_,J⟩
    ·have:=I.ru h;omega
    ·exact I.inj f d' y h J
  ·rw[H]at h;unfold ca.put at h;split at h
   ·cases h
   ·exact I.Ev f h
  ·rw[(s _).bare];unfold eE;rw[n7 (λp z=>⟨(o p z).2.1,(o p z).2.2.1⟩),show D.K=(A 0).F from ff.mu I.main];exact hf w v _ (I.ox _) rk R YP
 ·refine .tree YV (.single ?_);rw[fC];exact fl a1 (by rw[hT];exact Tr.bE ..)
theorem Inv.HM (I:Inv P E a n c w t A C)(hi:c[0]? =S g){sc:List Ak}{pl:List (List Ak)}(hp:(A 0).ph= .work true (sc::pl) s){Fc F1:aq}{Y:j0}(hd:k8 t 0=0)
  (hL: ∀F w w1,dD F w w1->L F w->L F w1)(c4:j2 P true g w= .spawn J Y w #[])(a2:Up J)(a3:Up Y)(b4:Fc.sub (A 0).F)(c9:F1.sub (A 0).F)(d0:Fc.apart F1)(d1:Fc.ok)(d2:F1.ok)
  (d3:qF P E 0 (A 0).r (e w 0 undef) L sc Fc Y w)(hf:bX P E true (qF P E 0) (A 0).L (jc a 0) (e w 1 undef) 0 (A 0).r ((A 0).lg ++ [L]) (.work false pl s) F1 J w):oG P E a n c w t A 0 sl:=by
 have K:=I.eu;have d4:0<c.size:=YS;have a4:c.size≠0:=YP;let D0:={A 0 with T:=e w 1 undef,lg:=(A 0).lg ++ [L],ph:= .work false pl s,F:=F1};let Dn:ff:={T:=e w 0 undef,r:=(A 0).r,lg:= [],ph:= .work false [] sc,F:=Fc,L:=L};have eA: ∀l,upd (upd A 0 D0) c.size Dn l=if l=c.size then Dn else if l=0 then D0 else A l:=λl=>by rfl
 generalize d5:upd (upd A 0 D0) c.size Dn=A' at eA;have B:A' 0=D0:=by rw[eA,if_neg (Ne.symm a4),if_pos R]
 have an:A' c.size=Dn:=by rw[eA,if_pos R]
 have D: ∀l,l≠0->l≠c.size->A' l=A l:=YS;have M:=I.mem;have a6: ∀l,(l=c.size/\(A' l).F.sub (A 0).F)\/(l≠c.size/\(A' l).F.sub (A l).F):=λl=>by
  by_cases h:l=c.size
  ·grind
  ·by_cases j:l=0
   ·grind
   ·rw[D l j h];exact .inr ⟨h,aq.dG _⟩
 have G: ∀l,∃k,(A' l).F.sub (A k).F/\(k=l\/(k=0/\l=c.size)):=YS;have a9: ∀ {F H F' H':aq},F.apart H->F'.sub F->H'.sub H->(∀b,F.wr b->F.rd b)->(∀b,H.wr b->H.rd b)->F'.apart H':=λ{F H F' H'} h V b gF gH=>
  ⟨λZ K m=>h.wr Z (V.wr Z K) (b.rd Z m),λZ K m=>h.PG Z (b.wr Z K) (V.rd Z m),λZ k K m=>by
   rcases V.cl Z k K with N | N<;>rcases b.cl Z k m with c2 | c2
   ·exact h.cc Z k N c2
   ·exact h.cl Z k N c2.2
   ·exact h.GW Z k c2 N.2
   ·exact h.wr Z N.1 c2.2,λZ k K m=>by
   rcases V.cl Z k K with N | N
   ·exact h.cl Z k N (b.rd Z m)
   ·exact h.wr Z N.1 (b.rd Z m),λZ k K m=>by
   rcases b.cl Z k K with N | N
   ·exact h.GW Z k N (V.rd Z m)
   ·exact h.PG Z N.1 (V.rd Z m)⟩
 have symm: ∀ {F H:aq},F.apart H->H.apart F:=λh=>⟨h.PG,h.wr,λb k K m=>h.cc b k m K,h.GW,h.cl⟩;have b5: ∀l,(A' l).F.ok:=λl=>by
  by_cases h:l=c.size
  ·grind
  ·by_cases j:l=0
   ·grind
   ·rw[D l j h];exact ⟨M.eZ l,M.own l⟩
 have hM:Mem E A' w:=by
  refine ⟨λk=>(b5 k).wr,λk b h=> ?_,λk b l h=> ?_,λk=>(b5 k).cl,λk l b6=> ?_,λk b hb=> ?_,λk a5 b hb=> ?_,M.wg,M.slow,λk=> ?_,M.wT,?_,M.vG⟩
  ·obtain ⟨X,p,_⟩:=G k;exact M.low X b (p.rd b h)
  ·obtain ⟨X,p,_⟩:=G k;rcases p.cl b l h with h | h
   ·exact M.lr X b l h
   ·exact M.low X b h.2
  ·by_cases hk:k=c.size
   ·subst hk;by_cases j:l=0
    ·grind
    ·rw[an,D l j (Ne.symm b6)];exact a9 (M.apart 0 l (Ne.symm j)) b4 (aq.dG _) (M.eZ 0) (M.eZ l)
   ·by_cases O:l=c.size
    ·subst O;by_cases j:k=0
     ·grind
     ·rw[an,D k j hk];exact symm (a9 (M.apart 0 k (Ne.symm j)) b4 (aq.dG _) (M.eZ 0) (M.eZ k))
    ·have sk:=((a6 k).resolve_left λh=>hk h.1).2;have sl:=((a6 l).resolve_left λh=>O h.1).2;exact a9 (M.apart k l b6) sk sl (M.eZ k) (M.eZ l)
  ·obtain ⟨X,p,_⟩:=G k;refine ⟨λh=>(M.out X b hb).1 (p.rd b h),λl h=> ?_⟩;rcases p.cl b l h with h | h
   ·exact (M.out X b hb).2 l h
   ·exact (M.out X b hb).1 h.2
  ·rw[B]at hb;obtain ⟨X,p,_⟩:=G k;have hm:=M.chan X a5 b hb;refine ⟨λh=>hm.1 (p.rd b h),λl h=> ?_⟩;rcases p.cl b l h with h | h
   ·exact hm.2 l h
   grind
  ·obtain ⟨X,p,_⟩:=G k;exact (M.pure X).sub p
  ·intro a5 b hb;rw[B]at hb;exact M.tY a5 b hb
 have a7: ∀ {F H:aq}{l:Loc},F.sub H->Wl F l->Wl H l:=λ{F H l} p h=>by
  cases l with
  | cell V=>rcases h with h | h;exact .inl (p.wr _ h);exact (p.cl _ _ h).elim .inr λh=> .inl h.1
  | obj y=>exact p.wr _ h
  | _=>exact h
 have a8: ∀ {F H:aq}{l:Loc},F.sub H->Rl F l->Rl H l:=λ{F H l} p h=>by
  cases l with
  | cell V=>rcases h with h | h;exact .inl (p.rd _ h);exact (p.cl _ _ h).elim .inr λh=> .inl h.2
  | obj y=>exact p.rd _ h
  | _=>exact h
 have b7:=I.hear _ (k9 _);have b8:=runT_crowd_spawn (sl:=sl) hi c4;have c5:((j5 0 g.frame.fn g.frame.place #[]).push {g:=0,fn:=g.frame.fn,pos:=g.frame.place,act:= .go c.size}).push {g:=c.size,fn:=Y.frame.fn,pos:=g.frame.place,act:= .start}= #[({g:=0,fn:=g.frame.fn,pos:=g.frame.place,act:= .go c.size}:u4),{g:=c.size,fn:=Y.frame.fn,pos:=g.frame.place,act:= .start}]:=by simp[j5]
 rw[c5]at b8;have hu: ∀x∈ #[({g:=0,fn:=g.frame.fn,pos:=g.frame.place,act:= .go c.size}:u4),{g:=c.size,fn:=Y.frame.fn,pos:=g.frame.place,act:= .start}],x.act.touch? =none/\(∀V,x.act≠ .mark (.release V))/\x.act.low w.heap.size/\x.act≠ .mark .disable/\x.act≠ .mark .enable:=λx f=>by simp at f;rcases f with rfl | rfl<;>exact ⟨R,YR,trivial,YR,YR⟩
 have b9: ∀k,k8 (t ++ #[({g:=0,fn:=g.frame.fn,pos:=g.frame.place,act:= .go c.size}:u4),{g:=c.size,fn:=Y.frame.fn,pos:=g.frame.place,act:= .start}]) k=k8 t k:=fW λx f=>(hu x f).2.2.2;have c6:mh (uv E) (WA A') (ri A') (t ++ #[({g:=0,fn:=g.frame.fn,pos:=g.frame.place,act:= .go c.size}:u4),{g:=c.size,fn:=Y.frame.fn,pos:=g.frame.place,act:= .start}]):=by
  refine I.led.fork ⟨R,R⟩ ⟨R,R⟩ hd b7 (λl y h=> ?_) (λl y h=> ?_)
  ·obtain ⟨k,p,hk⟩:=G l;rcases hk with rfl | ⟨rfl,rfl⟩
   ·exact .inl (a7 p h)
   ·exact .inr ⟨R,a7 p h⟩
  ·obtain ⟨k,p,hk⟩:=G l;rcases hk with rfl | ⟨rfl,rfl⟩
   ·exact .inl (h.imp (a8 p) (λ⟨a5,Z,hc,b0⟩=>⟨a5,Z,by rw[B]at hc;exact hc,b0⟩))
   ·exact .inr ⟨R,h.imp (a8 p) (λ⟨a5,Z,hc,b0⟩=>⟨a5,Z,by rw[B]at hc;exact hc,b0⟩)⟩
 have d:((c.setIfInBounds 0 J).push Y).size=c.size + 1:=YR;have a1: ∀l o,((c.setIfInBounds 0 J).push Y)[l]? =S o->(l=0/\o=J)\/(l=c.size/\o=Y)\/(l≠0/\l≠c.size/\c[l]? =S o):=λl o h=>by
  rw[Array.getElem?_push]at h;split at h
  ·rename_i b0;simp at b0;exact .inr (.inl ⟨b0,(F9 h).symm⟩)
  grind
 have hV:Vn n (c.size + 1) A'=Vn n c.size A:=by
  unfold Vn;simp only[B1];rw[an,B,if_pos I.le,B2 (g:=λi=>if n<=i then (A i).ph.gz else 0) λW hj=> ?_,hp];·rfl
  ·by_cases j:W=0
   ·grind
   ·rw[D W j YP]
 have hS:dN (c.size + 1) A'=dN c.size A:=by
  funext l;unfold dN;by_cases O:l<c.size
  ·rw[if_pos YP,if_pos O];by_cases j:l=0
   ·subst j;rw[B,hp];rfl
   ·rw[D l j YP]
  ·rw[if_neg O,hp];by_cases u:l=c.size
   ·subst u;rw[if_pos YP,an];simp[Dn,Ph.nR,Ph.db]
   ·rw[if_neg YP,B];have:l - c.size=(l - (c.size + 1)) + 1:=YP;rw[this];rfl
 refine ⟨_,_,_,A',C,b8,?_,.db (by rw[B,hp];simp[D0,Ph.db])⟩;constructor
 ·omega
 ·rw[d];have:=I.le;omega
 ·intro l o ho;rw[b9];rcases a1 l o ho with ⟨rfl,rfl⟩ | ⟨rfl,rfl⟩ | ⟨K,m,Q⟩
  ·rw[B];refine .run (by simp[D0]) ?_ a2.1;rw[a2.bare,hd];exact hf
  ·rw[an];refine .run (by simp[Dn]) ?_ a3.1;rw[a3.bare,b7];unfold eE qF jc;rw[if_neg a4,if_neg a4,show (c.size==0)=false by simpa using a4];assumption
  ·rw[D l K m];exact I.sit l o Q
 ·intro l O;rw[d]at O;rw[D l YP YP];exact I.MR l YP
 ·intro l O;rw[d]at O;rw[b9];exact I.hear l YP
 ·intro l j m;rw[D l YP (by have:=I.le;omega)];exact I.old l j m
 ·rw[B];rfl
 ·intro l j m;rw[d]at m;by_cases u:l=c.size
  ·grind
  ·rw[D l YP u];exact I.wk l j YP
 ·exact I.ok
 ·exact hM
 ·exact c6
 ·exact z7 I.low λx f=>(hu x f).2.2.1
 ·intro x f;rw[d];rcases Array.mem_append.1 f with h | h
  ·have:=I.gl x h;omega
  ·simp at h;rcases h with rfl | rfl<;>(simp)
 ·exact I.hand.app λx f=> .inr (.inr (hu x f).1)
 ·intro l j m Q;rw[d]at m;by_cases u:l=c.size
  ·subst u;rw[an]at Q;cases Q
  ·rw[D l YP u]at Q;obtain ⟨q,hq⟩:=I.rel l j YP Q;exact ⟨q,hq.app λW hj _=>lV (λx f=>(hu x f).1) hj⟩
 ·exact λV=>(I.norel V).app λx f=>(hu x f).2.1 _
 ·intro ho;rw[d];obtain ⟨hw,hn,_⟩:=I.Ms ho YS;refine .plain ?_ ?_ ?_ ?_ YS λl b1 b2 b3=> ?_
  ·grind
  ·grind
  ·grind
  ·grind
  ·by_cases u:l=c.size
   ·subst u;rw[an]at b3;exact b3
   ·rw[D l YP u]at b3;exact hn l b1 YP b3
 ·grind
 ·rw[B];exact I.chan
 ·rw[B];exact I.inj
 ·intro l O a5 y hy;rw[d]at O;rw[B];by_cases u:l=c.size
  ·grind
  ·by_cases j:l=0
   ·grind
   ·rw[D l j u]at hy;exact I.pB l YP a5 y hy
 ·rw[B];exact I.Ev
 ·rw[d,hS];exact I.lR
 ·rw[d,hS];exact I.one
 ·rw[d,hS];exact I.once
 ·rw[d,hS];exact I.zr
 ·intro l l' gl c3 y v z z' q O c7 e1 e2;rcases a1 l gl O with ⟨_,rfl⟩ | ⟨_,rfl⟩ | ⟨_,_,Q⟩
  ·exact a2.fy _ _ _ e1
  ·exact a3.fy _ _ _ e1
  ·rcases a1 l' c3 c7 with ⟨_,rfl⟩ | ⟨_,rfl⟩ | ⟨_,_,h4⟩
   ·exact a2.fy _ _ _ e2
   ·exact a3.fy _ _ _ e2
   ·exact I.nb l l' gl c3 y v z z' q Q h4 e1 e2
 ·intro l j m;rw[d]at m;have d6:=I.It;rw[B];show ((A 0).lg ++ [L])[l - n]? =_;by_cases u:l=c.size
  ·subst u;rw[an,List.getElem?_append_right YP,show c.size - n - (A 0).lg.length=0 by omega];rfl
  ·rw[D l YP u,List.getElem?_append_left YP];exact I.Lu l j YP
 ·rw[B,d];show ((A 0).lg ++ [L]).length + n=_;have:=I.It;grind
 ·intro l j m;rw[d]at m;by_cases u:l=c.size
  ·grind
  ·rw[D l YP u];exact I.ra l j YP
 ·intro l j m Q;rw[d]at m;by_cases u:l=c.size
  ·subst u;rw[an]at Q;cases Q
  ·rw[D l YP u]at Q ⊢;exact I.left l j YP Q
 ·rw[d,B];have:=I.few;rw[hp]at this;simp only[Ph.db,List.length_cons]at this;show c.size + 1 + pl.length<=_;omega
end
end
section
open Go.ConcR (KK WgAt stA smA rd wr)
section
variable {A':Nat->ff}{x:Nat}
variable {A:Nat->ff}
theorem Inv.stuck (I:Inv P E a n c w t A C)(e: ∀ (k:Nat) g,c[k]? =S g->g.status≠ .running)(j:i<c.size){f:Ak}(b:(A i).ph.nR=f::s): ∃g,c[i]? =S g/\pg P E i (A i) g w:=by
 have d:c[i]? =S c[i]:=YR;refine ⟨_,d,?_⟩;cases I.sit i _ d with
 | gone h=>rw[h]at b;cases b
 | run _ _ h=>grind
 | gO h=>rw[h]at b;cases b
 | fy _ h=>exact h
theorem yO {f:Nat->Nat}(h:B1 n f=0)(a:i<n):f i=0:=by have:=le_sumTo (f:=f) a;omega
theorem sq {f:Nat->Nat}: ∀ {n:Nat},1<=B1 n f-> ∃i,i<n/\1<=f i
 | 0,h=>by simp[B1]at h
 | n + 1,h=>by
  rcases Nat.eq_zero_or_pos (f n)with a | a
  ·obtain ⟨i,c,b⟩:=sq (f:=f) (n:=n) (by simp only[B1]at h;omega);exact ⟨i,YP,b⟩
  grind
theorem Inv.goes (I:Inv P E a W c w t A C): ∃ (i:Nat)(g:Goroutine),c[i]? =some g/\g.status= .running:=by
 refine j4 λJ=> ?_;have d: ∀ (k:Nat) g,c[k]? =some g->g.status≠ .running:=λk g j K=>J ⟨k,g,j,K⟩;have j:=I.eu;have a4:=I.le;have zl:0<c.size:=YP;have o:c[0]? =some c[0]:=r9 zl;have F:(A 0).ph.db= []:=by
  cases I.sit 0 _ o with
  | gone h=>have:=I.main;rw[h]at this;cases this
  | run _ _ h=>exact absurd h (d 0 _ o)
  | gO h=>rw[h];rfl
  | fy _ h=>cases h with | send _ _ _ _ _ _ h=>rw[h];rfl | recv _ _ _ _ _ _ h=>rw[h];rfl
 have B: ∀k {m:Ak} {s:List Ak},dN c.size A k=m::s->k<c.size/\(A k).ph.nR=m::s:=λk m s h=>by
  unfold dN at h;split at h
  ·rename_i e;exact ⟨e,h⟩
  ·rw[F]at h;simp at h
 rcases I.lR.some with L | ⟨y,M⟩
 ·
  have a0: ∀k,k<c.size->(A k).ph.nR= []:=λk e=>by have:=L k;dsimp only at this;unfold dN at this;rw[if_pos e]at this;exact this
  have N: ∀k g,k<c.size-> ¬pg P E k (A k) g w:=λk g e O=>by
   have:=a0 k e;cases O with
   | send _ _ _ _ _ _ h=>rw[h]at this;cases this
   | recv _ _ _ _ _ _ h=>rw[h]at this;cases this
  have gone: ∀k,W<=k->k<c.size->(A k).ph= .gone:=λk D e=>by
   have hg:c[k]? =some c[k]:=r9 e;cases I.sit k _ hg with
   | gone h=>exact h
   | run _ _ h=>exact absurd h (d k _ hg)
   | gO h=>rcases I.wk k D e with ⟨s,h'⟩ | h'<;>(rw[h]at h';cases h')
   | fy _ h=>exact absurd h (N k _ e)
  cases I.sit 0 _ o with
  | gone h=>have:=I.main;rw[h]at this;cases this
  | run _ _ h=>exact absurd h (d 0 _ o)
  | fy _ h=>exact absurd h (N 0 _ zl)
  | gO O _ hs G=>
   cases I.wg G with
   | plain h=>exact absurd O h
   | wait _ h _ _=>
    unfold Vn at h;rw[O]at h;obtain ⟨k,e,J⟩:=sq (n:=c.size) (f:=λi=>if W<=i then (A i).ph.gz else 0) (by simpa[Ph.nL]using h);by_cases D:W<=k
    ·rw[if_pos D,gone k D e]at J;simp[Ph.gz]at J
    ·rw[if_neg D]at J;omega
   | fx k _ _ _ D e h _=>rcases h with h | h<;>(rw[gone k D e]at h;cases h)
   | cu k _ _ _ D e h _=>rw[gone k D e]at h;cases h
   | post _ _ h _=>exact I.Cc G _ o (by rw[hs]) O h
 ·generalize hX:(dN c.size A,λu=>C u=true)=X at M;cases M with
  | @comm S Cl i Z u k s s' a5 Q e2=>
   cases hX;obtain ⟨il,l⟩:=B i Q;obtain ⟨T,p⟩:=B Z e2;obtain ⟨gi,V,pi⟩:=I.stuck d il l;obtain ⟨gj,Y,pj⟩:=I.stuck d T p;cases pi with
   | recv H x m s1 q z j r=>
    rw[j]at l;have:m= .send u k:=by injection l
    subst this;rcases r with h | ⟨_,h⟩<;>cases h
   | send H k1 x s1 v z j K h3 h4=>
    rw[j]at l;injection l with l _
    injection l with a1 a6
    subst a1;cases pj with
    | send c2 k2 y s2 v' z' g1=>rw[g1]at p;cases p
    | recv c2 y m s2 q z' g1 a2 g2 g3 g4=>
     rw[g1]at p;have:m= .recv H k:=by injection p
     subst this;rcases a2 with h | ⟨k2,h⟩
     ·cases h
     ·injection h with h _
      subst h;have hx:=I.pB i il H x K;have M:=I.pB Z T H y g2;rw[hx]at M;cases M;exact I.nb i Z gi gj x v z z' q V Y h3 g3
  | @close S Cl i u s Q=>
   cases hX;obtain ⟨il,l⟩:=B i Q;obtain ⟨gi,V,pi⟩:=I.stuck d il l;cases pi with
   | send _ _ _ _ _ _ j=>rw[j]at l;cases l
   | recv H x m s1 q z j r=>
    rw[j]at l;have:m= .close u:=by injection l
    subst this;rcases r with h | ⟨_,h⟩<;>cases h
  | @over S Cl Z u s Q a3=>
   cases hX;obtain ⟨T,p⟩:=B Z Q;obtain ⟨gj,Y,pj⟩:=I.stuck d T p;cases pj with
   | send _ _ _ _ _ _ j=>rw[j]at p;cases p
   | recv H x m s1 q z j r K h3 h4 h5=>
    rw[j]at p;have:m= .over u:=by injection p
    subst this;rcases r with h | ⟨_,h⟩
    ·injection h with h
     subst h;obtain ⟨m,b,hx⟩:=I.chan u x (I.pB Z T u x K);obtain ⟨_,_,_,_,_,G⟩:=h5;rw[hx]at G;have:C u=true:=a3;rw[this]at G;cases G
    ·cases h
variable {D:ff}
theorem Inv.KJ (I:Inv P E a i c w t A C)(H:E.on)(K:c[0]? =S g)(r:g.status= .running)(u:(A 0).ph= .work false [] [])(L:(A 0).T= .node e)
  (M: ∀ (v:World)(b:Nat),RK E (A 0).F w v->bX P E true (qF P E 0) (A 0).L (jc a 0) (e v b undef) (k8 t 0) (A 0).r (A 0).lg (.load b) (A 0).F (bare g) v): ∃A',Inv P E a i c w t A' C/\Gr c A' c A:=by
 have F:=I.eu;have N:0<c.size:=YS;obtain ⟨V,O,_⟩:=I.Ms H YS;let D:={A 0 with T:=e w (Vn i c.size A) undef,ph:= .load (Vn i c.size A)};have p:D.ph.nR=(A 0).ph.nR:=by rw[u];rfl
 have d:D.ph.db=(A 0).ph.db:=by rw[u];rfl
 have W:=iE (n:=c.size) (D:=D) F (by rw[u];rfl) R;have f: ∀l,(l7 A 0 D l).F=(A l).F/\(l7 A 0 D l).r=(A l).r/\(l7 A 0 D l).lg=(A l).lg/\(l7 A 0 D l).L=(A l).L:=qo ⟨R,R,R,R⟩;have j: ∀l,l≠0->l7 A 0 D l=A l:=λl h=>j3 _ _ h;have x:WA (l7 A 0 D)=WA A:=by funext k l;unfold WA;rw[(f k).1]
 have z:ri (l7 A 0 D)=ri A:=by funext k l;unfold ri;rw[(f k).1,(f 0).2.1]
 refine ⟨l7 A 0 D,?_,.tree (by rw[h9,d]) (.single (fl N (by rw[L];exact Tr.bE ..)))⟩;constructor
 ·omega
 ·exact I.le
 ·intro l J q;by_cases h:l=0
  ·subst h;rw[K]at q;cases q;rw[h9];refine .run (by simp[D]) ?_ r;unfold eE;rw[show D.K=(A 0).F from rfl];exact M w _ (I.ox _)
  ·rw[j l h];exact I.sit l J q
 ·intro l B;rw[(f l).1];exact I.MR l B
 ·exact I.hear
 ·intro l m o;rw[j l YP];exact I.old l m o
 ·rfl
 ·intro l m o;rw[j l YP];exact I.wk l m o
 ·exact I.ok
 ·exact I.mem.same R R
 ·rw[x,z];exact I.led
 ·exact I.low
 ·exact I.gl
 ·exact I.hand
 ·intro l m o s;rw[j l YP]at s;exact I.rel l m o s
 ·exact I.norel
 ·intro _;refine .plain ?_ ?_ ?_ ?_ YS (O.main F)
  ·rw[h9];simp[D]
  ·rw[h9];grind
  ·rw[h9];simp
  ·rw[h9];simp
 ·grind
 ·rw[(f 0).2.1];exact I.chan
 ·rw[(f 0).2.1];exact I.inj
 ·intro l B Q y G;rw[(f l).2.1]at G;rw[(f 0).2.1];exact I.pB l B Q y G
 ·rw[(f 0).2.1];exact I.Ev
 ·rw[gL p d];exact I.lR
 ·rw[gL p d];exact I.one
 ·rw[gL p d];exact I.once
 ·rw[gL p d];exact I.zr
 ·exact I.nb
 ·intro l m o;rw[(f 0).2.2.1,(f l).2.2.2];exact I.Lu l m o
 ·rw[(f 0).2.2.1];exact I.It
 ·intro l m o;rw[(f l).2.2.2];exact I.ra l m o
 ·intro l m o s;rw[j l YP]at s ⊢;exact I.left l m o s
 ·rw[h9,d];exact I.few
end
end
section
open Go.ConcR (KK WgAt stA smA rd wr)
def NN (b:Sx)(l:Loc):Prop:= ∃a,l= .cell a/\b a.block
structure gW (P:o8)(S:Sx)(F:aq)(gs:Array j0)(w:World)(t:D4)(g:j0)(m:Nat):Prop where
 main: ∃g0,gs[0]? =some g0/\bare g0=g/\g0.status= .running
 old: ∀ (i:Nat) o,0<i->gs[i]? =some o-> ∃q,QuitsD P q (k8 t i) o
 rI:k8 t 0=0
 hear: ∀i,gs.size<=i->k8 t i=0
 led:mh (NN S) (λi l=>i=0/\Wl F l) (λi l=>i=0/\Rl F l) t
 low: ∀op∈t,op.act.low m
 BH:m<=w.heap.size
 EA: ∀a,D6 a t
 gl: ∀op∈t,op.g<gs.size
 over:t.HandedOver
 QG:F.ok
 DC: ∀b,F.rd b->b<w.heap.size
 zB: ∀b k,F.cl b k->b<w.heap.size
 out: ∀b,S b-> ¬F.rd b/\ ∀k,¬F.cl b k
 slow: ∀b,S b->b<w.heap.size
 pure:F.pure S
 fr:S.old w
 nm:S.n<=m
section
variable {End:aq->Goroutine->World->Nat->Prop}{n0:Nat}{gs':Array Goroutine}{u:Trace}{o:Goroutine}{es:Array Event}{sl:Option (Nat×Nat)}
variable {A:Nat->ff}
theorem Inv.MT (I:Inv P E a n c w t A C)(f:i<c.size)(d:(A i).ph.ck=false)(g: ∀s,(A i).ph≠ .work false [] s):i=0:=by
 refine j4 λh=> ?_;rcases Nat.lt_or_ge i n with b | b
 ·have:=(I.old i YP b).1;rw[this]at d;cases d
 ·rcases I.wk i b f with ⟨s,e⟩ | e
  ·exact g s e
  grind
theorem Inv.RU (I:Inv P E a n c w t A C)(d:i≠0)(b:(A i).ph≠ .gone):n<=i:=by refine j4 λh=>b (I.old i YP YP).1
theorem Inv.Qh (I:Inv P E a n c w t A C)(b:(A i).ph.ck=true)(d:(A i).ph≠ .gone):n<=i:=I.RU (λe=>by subst e;rw[I.main]at b;cases b) d
theorem Inv.joined (I:Inv P E a W c w t A C)(j:E.on)(l:(A 0).ph= .joined): ∀k,W<=k->k<c.size->(A k).ph= .gone:=by
 obtain ⟨_,m,_,_,o⟩:=I.Ms j YS;have p:=o (.inr l);intro k b d;have e:(A k).ph.gz=0:=by unfold Vn at p;have:=yO (f:=λi=>if W<=i then (A i).ph.gz else 0) (n:=c.size) YP d;rwa[if_pos b]at this
 have q:=m k b d;rcases I.wk k b d with ⟨s,h⟩ | h
 ·rw[h]at e;cases e
 ·cases g:(A k).ph<;>rw[g]at e q h<;>simp_all[Ph.gz,Ph.last,Ph.ck]
theorem DX {a:Addr}{q:Nat}(c:Hand n0 t)(i: ∀k g,t.g? k=S g->n0<=g-> ∃r,D5 a t g r/\r<q)(n:D6 a t)(o:t.act? q=S (.mark (.acquire a)))(p:t.g? q=S 0)(s:t.heard q):t.HandedOver:=by
 intro k g e j m;rcases c k g e j m with h | h
 ·exact h
 ·obtain ⟨r,f,l⟩:=i k g e h;have d:C9 t r q:= .single (.inr ⟨.marked l (.inr f.act) o (λk _ _=>n k),f.heard,s⟩);have u:=Nat.le_of_not_lt λb=>f.after k b e m;rcases Nat.lt_or_ge k r with b | v
  ·exact ⟨q,p,.trans (.single (.inl ⟨b,g,e,f.g⟩)) d⟩
  grind
theorem Inv.Oj (I:Inv P E End n0 c w t A C)(ho:E.on)(hi:c[0]? =S g)(hp:(A 0).ph= .joined)(z:Up J)(hd:k8 t 0=0)(G:j2 P true g w= .go J w #[q8 (.acquire (stA E.Wg))]):
  ∃gs' u,runT P (crowd c w sl) 0=(.next (crowd gs' w sl),u)/\gW P E.S (.all w.heap.size E.S) gs' w (t ++ u) J w.heap.size/\ ∀ (i:Nat)(L:bC),(A 0).lg[i]? =S L-> ∃H,L H w:=by
 have m:=I.joined ho hp;have h1:=I.eu;have hS:=I.mem.wg ho;have K:=I.mem.slow _ hS;have M:0<c.size:=YS;have s: ∀k,0<k->k<c.size->(A k).ph= .gone:=λk N x=>by
  rcases Nat.lt_or_ge k n0 with h | h
  ·exact (I.old k N h).1
  grind
 have O:j5 0 g.frame.fn g.frame.place #[q8 (.acquire (stA E.Wg))]= #[{g:=0,fn:=g.frame.fn,pos:=g.frame.place,act:= .mark (.acquire (stA E.Wg))}]:=by simp[j5,q8,j1]
 refine ⟨_,_,o5 hi G,?_,λi L hL=> ?_⟩
 ·rw[O];have F:(t ++ #[({g:=0,fn:=g.frame.fn,pos:=g.frame.place,act:= .mark (.acquire (stA E.Wg))}:u4)])[t.size]? =S {g:=0,fn:=g.frame.fn,pos:=g.frame.place,act:= .mark (.acquire (stA E.Wg))}:=YR;have B: ∀k,k8 (t ++ #[({g:=0,fn:=g.frame.fn,pos:=g.frame.place,act:= .mark (.acquire (stA E.Wg))}:u4)]) k=k8 t k:=fW λf d=>YS;have Q: ∀f∈t ++ #[({g:=0,fn:=g.frame.fn,pos:=g.frame.place,act:= .mark (.acquire (stA E.Wg))}:u4)],f.g<c.size:=λf d=>by
   rcases Array.mem_append.1 d with h | h
   ·exact I.gl f h
   grind
  have j:mh (uv E) (WA A) (ri A) (t ++ #[({g:=0,fn:=g.frame.fn,pos:=g.frame.place,act:= .mark (.acquire (stA E.Wg))}:u4)]):=I.led.mute λf d=>by simp at d;subst d;rfl
  have v:(t ++ #[({g:=0,fn:=g.frame.fn,pos:=g.frame.place,act:= .mark (.acquire (stA E.Wg))}:u4)]).HandedOver:=by
   refine DX (n0:=n0) (a:=stA E.Wg) (q:=t.size) (I.hand.app λf d=> .inl YS) (λk T x hn=> ?_) ((I.norel _).app λf d=>YS) (by rw[act?_of F]) (by simp[z6]) ⟨0,by simp[z6],by rw[deaf_old (Nat.le_refl _)];exact hd⟩;have D:T<c.size:=by obtain ⟨f,d,rfl⟩:=m5.1 x;exact Q f (Array.mem_of_getElem? d)
   obtain ⟨r,hr⟩:=I.rel T hn D (by rw[m T hn D];rfl);have V:=lt_of_act? hr.act;exact ⟨r,hr.app λn hj _=>lV (λf d=>by simp at d;subst d;rfl) hj,V⟩
  have X:=j.knows v;refine ⟨⟨J,by simp[M],z.bare,z.1⟩,λk o N x=> ?_,YS,λk x=>by rw[B];exact I.hear k YS,?_,λf d=> ?_,Nat.le_refl _,λa=>(I.norel a).app λf d=>YS,λf d=>YS,v,⟨λ_ h=>h.1,λ_ _ h=>n9 h⟩,λb h=>h.1,λ_ _ h=>n9 h,λb h=>⟨λh'=>h'.2 h,λ_ h=>h⟩,I.mem.slow,aq.mX _ _,I.ok.2,I.mem.vG⟩
  ·rw[B];rcases dB x with ⟨h,_⟩ | ⟨_,p,Y,rfl⟩
   ·omega
   ·have kl:k<c.size:=by grind
    have Z:=s k N kl;cases I.sit k p Y with
    | gone h hf=>obtain ⟨q,_,F⟩:=cI h hf;exact ⟨q,by rw[woken_quitsD F];exact F⟩
    | run h=>grind
    | gO h=>grind
    | fy _ h=>cases h with | send _ _ _ _ _ _ h=>grind | recv _ _ _ _ _ _ h=>grind
  ·have a0: ∀l,Rl (.all w.heap.size E.S) l->l.isMemory=true/\ ¬uv E l:=λl h=>by
    cases l with
    | cell a=>
     rcases h with h | h
     ·exact ⟨R,λ⟨a',e,hs⟩=>by cases e;exact h.2 hs⟩
     ·exact n9 h
    | obj y=>exact ⟨R,λ⟨a',e,_⟩=>by cases e⟩
    | _=>exact n9 h
   have wm: ∀l,Wl (.all w.heap.size E.S) l->Rl (.all w.heap.size E.S) l:=λl h=>by
    cases l with
    | cell a=>exact h.imp And.left id
    | obj W=>exact h.1
    | _=>exact n9 h
   refine ⟨j.quiet,j.plain,λk l x k1 a ha e=> ?_,λk l x k1 a ha e _=> ?_,j.nr⟩
   ·obtain ⟨rfl,hl⟩:=x;obtain ⟨m1,m2⟩:=a0 l (wm l hl);rcases X k1 a ha (by rw[e];exact m1)with h | ⟨h,_⟩
    ·exact h
    ·exact absurd (e▸h) m2
   grind
  ·rcases Array.mem_append.1 d with h | h
   ·exact I.low f h
   ·simp at h;subst h;exact K
 ·have a1:=I.It;have il:i<(A 0).lg.length:=YS;have Z:=I.Lu (n0 + i) YP YP;rw[show n0 + i - n0=i by omega,hL]at Z;cases Z;exact ⟨_,I.left (n0 + i) YP YP (by rw[m _ YP YP];rfl)⟩
theorem Inv.Jy (I:Inv P E a i c w t A C)(n:c[0]? =S g)(b:g.status= .running)(e:(A 0).lg= [])(o:k8 t 0=0):gW P E.S (A 0).F c w t (bare g) w.heap.size:=by
 have p:i=c.size:=by have:=I.It;rw[e]at this;simpa using this
 refine ⟨⟨g,n,R,b⟩,λk J r d=> ?_,o,I.hear,?_,I.low,k9 _,I.norel,I.gl,λk s d f u=> ?_,⟨I.mem.eZ 0,I.mem.own 0⟩,I.mem.low 0,I.mem.lr 0,I.mem.out 0,I.mem.slow,I.mem.pure 0,I.ok.2,I.mem.vG⟩
 ·have y:k<c.size:=by grind
  have z:=(I.old k r YP).1;cases I.sit k J d with
  | gone h v=>obtain ⟨q,_,B⟩:=cI h v;grind
  | run h=>grind
  | gO h=>grind
  | fy _ h=>cases h with | send _ _ _ _ _ _ h=>grind | recv _ _ _ _ _ _ h=>grind
 ·exact I.led.tI (λ_ h=>h) (λ_ h=> .inl h) (λk l ⟨h,j⟩=> .inl (by subst h;exact j)) (λk l ⟨h,j⟩=> .inl (by subst h;exact .inl j))
 ·rcases I.hand k s d f u with h | h
  ·exact h
  ·exfalso;obtain ⟨x,m,rfl⟩:=m5.1 d;have:=I.gl x (o6 m);omega
theorem Inv.KD (I:Inv P E a i c w t A C)(M:c[0]? =S g)(x:g.status= .running)(D:(A 0).lg= [])(Q:k8 t 0=0)(z:Up J){F:E8}(G: ∀e∈es,CL e)(H:j2 P true g w= .go J {w with heap:=w.heap.push F} es):
  ∃gs' u,runT P (crowd c w sl) 0=(.next (crowd gs' {w with heap:=w.heap.push F} sl),u)/\gW P E.S ((A 0).F.add w.heap.size (w.heap.size + 1)) gs' {w with heap:=w.heap.push F} (t ++ u) J w.heap.size:=by
 have h:=I.Jy M x D Q;have K:0<c.size:=YS;refine ⟨_,_,o5 M H,?_⟩;have s: ∀j∈MemOp.ofEvents 0 g.frame.fn g.frame.place es,j.g=0/\j.act.touch? =none/\(∀n,j.act.low n)/\(j.act≠ .mark .disable/\j.act≠ .mark .enable)/\ ∀r,j.act≠ .mark (.release r):=λj d=>by obtain ⟨e,T,rfl⟩:=l6 d;obtain ⟨V,W,X,Y,Z⟩:=G e T;exact ⟨R,V,Z,⟨λh=>W (n6 h),λh=>X (n6 h)⟩,λr h=>Y r (n6 h)⟩
 have B: ∀k,k8 (t ++ MemOp.ofEvents 0 g.frame.fn g.frame.place es) k=k8 t k:=fW λj d=>(s j d).2.2.2.1;refine ⟨⟨J,by simp[K],z.bare,z.1⟩,λk o m N=> ?_,YS,λk N=>by rw[B];exact I.hear k YS,?_,λj d=> ?_,YR,λr=>(I.norel r).app λj d=>(s j d).2.2.2.2 r,λj d=> ?_,handedOver_app h.over λj d=> .inl (s j d).1,⟨λb h=>h.imp (I.mem.eZ 0 b) id,λb k h h'=>h'.elim (I.mem.own 0 b k h) λh2=>by have:=I.mem.lr 0 b k h;omega⟩,λb h=> ?_,λb k h=> ?_,λb v=>⟨λh=>h.elim (I.mem.out 0 b v).1 λh=>by have:=I.mem.slow b v;omega,(I.mem.out 0 b v).2⟩,λb v=> ?_,(I.mem.pure 0).add I.mem.vG,Sx.dR I.ok.2 YR (λb v=>by have:=I.ok.2.1;grind) ⟨R,R⟩,I.mem.vG⟩
 ·rw[B];rcases dB N with ⟨h,_⟩ | ⟨_,p,L,rfl⟩
  ·omega
  ·obtain ⟨q,O⟩:=h.old k p m L;exact ⟨q,by rw[woken_quitsD O];exact O⟩
 ·refine (h.led.mute λj d=>(s j d).2.1).tI (λ_ h=>h) (λ_ h=> .inl h) (λk l ⟨m,f⟩=> ?_) (λk l ⟨m,f⟩=> ?_);all_goals
   have fr: ¬l.low w.heap.size->uh (t ++ MemOp.ofEvents 0 g.frame.fn g.frame.place es) l:=λf=>dg (n:=w.heap.size) (z7 I.low λj d=>(s j d).2.2.1 _) f
  ·cases l with
   | cell r=>
    rcases f with (f | f) | f
    ·exact .inl ⟨m,.inl f⟩
    ·exact .inr (fr Zg)
    ·exact .inl ⟨m,.inr f⟩
   | obj y=>
    rcases f with f | f
    ·exact .inl ⟨m,f⟩
    ·exact .inr (fr Zg)
   | _=>exact n9 f
  ·cases l with
   | cell r=>
    rcases f with (f | f) | f
    ·exact .inl ⟨m,.inl f⟩
    ·exact .inr (fr Zg)
    ·exact .inl ⟨m,.inr f⟩
   | obj y=>
    rcases f with f | f
    ·exact .inl ⟨m,f⟩
    ·exact .inr (fr Zg)
   | _=>exact n9 f
 ·exact z7 I.low (λj d=>(s j d).2.2.1 _) j d
 ·rcases Array.mem_append.1 d with h | h
  ·simpa using I.gl j h
  grind
 ·rcases h with h | h
  ·have:=I.mem.low 0 b h;simp;omega
  grind
 ·have:=I.mem.lr 0 b k h;simp;omega
 ·have:=I.mem.slow b v;simp;omega
end
end
section
open Go.ConcR (KK WgAt stA smA rd wr)
section
variable (P:Program)(E:Env)(End:aq->Goroutine->World->Nat->Prop)(n0:Nat)(gs:Array Goroutine)(w:World)(t:Trace)(A:Nat->ff)(C:Nat->Bool)
inductive zg (i:Nat)(g:j0)(sl:Option (Nat×Nat)):Prop
 | pq:oG P E End n0 gs w t A i sl->zg i g sl
 | again:(∃A',Inv P E End n0 gs w t A' C/\Gr gs A' gs A)->zg i g sl
 | fin (F:aq):gW P E.S F gs w t (bare g) w.heap.size->(∀w1,RK E F w w1->End F (bare g) w1 w1.heap.size)->zg i g sl
 | join (gs':Array j0) (u:D4) (F:aq) (g':j0) (w':World) (m:Nat):runT P (crowd gs w sl) i=(.next (crowd gs' w' sl),u)->gW P E.S F gs' w' (t ++ u) g' m->End F g' w' m->zg i g sl
end
section
variable {End:aq->Goroutine->World->Nat->Prop}{n0:Nat}{gs':Array Goroutine}{u:Trace}{A':Nat->ff}
theorem IW{e:p8}(b:m=true)(c:E.S E.Wg)(d:e=q8 (.read (smA E.Wg))\/e=q8 (.write (smA E.Wg))):AB E m F e/\(∀n,E.Wg<n->(j1 e).low n)/\e.loc≠ .mark .disable/\e.loc≠ .mark .enable:=by
 rcases d with rfl | rfl<;>refine ⟨⟨λy a=> .inl ?_,Zf⟩,λn f=>f,Zf,Zf⟩<;>
  (simp[q8,j1,l8]at a;subst a;exact ⟨⟨_,R,c⟩,YR,λ_=>b⟩)
variable {A:Nat->ff}
theorem Inv.act (I:Inv P E End n0 c w t A C)(N:c[i]? =S g)(O:g.status= .running)(sl:Option (Nat×Nat)):zg P E End n0 c w t A C i g sl:=by
 have il:i<c.size:=YS;by_cases G:(A i).ph= .gone
 ·obtain ⟨gs',u,A',Q,y,m⟩:=I.leaves N G O sl;exact .pq ⟨gs',w,u,A',C,Q,y,m⟩
 have a0:=eE.nx (I.sit i g N) G;have hf:=a0;have a2: ∀l,j2 P (i==0) g l=j2 P (i==0) (bare g) l:=λl=>(fA _ _ _ _).symm;have H: ∀l,j2 P true g l=j2 P true (bare g) l:=λl=>(fA _ _ _ _).symm;have a1: ∀l,j2 P false g l=j2 P false (bare g) l:=λl=>(fA _ _ _ _).symm;unfold eE at hf;generalize hT:(A i).T=T at hf;generalize hd:Deaf t i=d at hf;generalize hr:(A i).r=r at hf;generalize V:(A i).lg=lg at hf;generalize j:(A i).ph=ph at hf;generalize B:(A i).K=K at hf;have rk:=I.ox K;cases hf with
 | fin h=>have D:=I.MT il (by rw[j];rfl) (λs=>YS);subst D;rw[I.K0]at B;subst B;exact .fin _ (I.Jy N O V hd) λl k=>h l k
 | @born _ _ _ _ o ob gi W Q y m x Z=>
  have X:i=0:=by simpa using W
  subst X;rw[I.K0]at B;subst B;obtain ⟨gs',u,e1,e2⟩:=I.KD (sl:=sl) N O V hd (y _) m (by rw[H];exact x w rk);exact .join gs' u _ _ _ _ e1 e2 (Z w rk)
 | @step f _ _ _ _ _ _ _ F1 Q y m x=>
  obtain ⟨g1,l,o,e1,e2,e3,e4,e5⟩:=m w rk;have a5:(A i).ph.ck=false:=by
   cases hb:(A i).ph.ck with
   | false=>rfl
   | true=>rw[j]at hb;exact absurd ((Ph.Em _).2 hb) y
  have Y:=ff.mu a5;rw[Y]at B;have J:=x w g1 l o rk e1;subst B;rw[<-j,<-hr,<-V,<-hd]at J;exact .pq (I.steps N (by assumption) a5 e3 e2 e4 e5 (by rw[hT];exact Tr.bE ..) J)
 | @mute f _ _ _ _ _ _ _ g1 D Q y m x=>have J:=x w rk;refine .pq (I.IX N (by rw[a2];exact m w rk) YP (y w rk) (λe he=>by simp at he) (by rw[hT];exact Tr.bE f w 0 U) ?_);rw[hr,V,j,B,hd];exact J
 | @disable f _ _ _ _ _ _ g1 _ D Q y m x=>
  have J:=x w rk;refine .pq (I.IX N (by rw[a2];exact m w rk) YP y (λe he=> ?_) (by rw[hT];exact Tr.bE f w 0 U) ?_)
  ·simp at he;subst he;exact ⟨.mute R Zf,trivial,λ_=>rfl⟩
  ·rw[hr,V,j,B,hd];exact J
 | @enable f _ d' _ _ _ _ g1 _ D Q y m x=>
  have J:=x w rk;refine .pq (I.IX N (by rw[a2];exact m w rk) YP y (λe he=> ?_) (by rw[hT];exact Tr.bE f w 0 U) ?_)
  ·simp at he;subst he;exact ⟨.mute R Zf,trivial,λ_=>rfl⟩
  ·rw[hr,V,j,B,hd];exact J
 | @said f _ _ _ _ _ _ g1 _ e b1 W a7 he Q y m x=>
  have J:=x w rk;have hS:=I.mem.wg a7;obtain ⟨s1,s2,s3,s4⟩:=IW (F:=(A i).F) W hS he;have X:i=0:=by simpa using W
  refine .pq (I.IX N (by rw[a2];exact m w rk) YP y (λe' a3=> ?_) (by rw[hT];exact Tr.bE f w 0 U) ?_)
  ·simp at a3;subst a3;exact ⟨s1,s2 _ (I.mem.slow _ hS),λhl=>by subst X;rw[I.main]at hl;cases hl⟩
  ·rw[hr,V,j,B,hd,n7 (λe' a3=>YS)];exact J
 | @make f _ _ _ a4 p pl s _ _ _ o gi W D Q y m x Z=>
  have X:i=0:=by simpa using W
  subst X;rw[I.K0]at B;subst B;refine .pq (I.KF N hT (by rw[hr];exact D) G gi y m (λl k=>by rw[H];exact x l k) λl w2 n k1 M k3 k4=> ?_);grind
 | @inc f _ _ _ sc pl s _ _ _ gi W D Q y m x Z=>
  have X:i=0:=by simpa using W
  subst X;rw[I.K0]at B;subst B;refine .pq (I.Om D N j hT gi y (λl v k M k3=>by rw[H];exact x l v k M k3) λl v k M=> ?_);grind
 | @spawn f _ _ sc pl s _ _ _ L Fc F1 W D Q y m x Z=>
  have X:i=0:=by simpa using W
  subst X;rw[I.K0]at B;subst B;obtain ⟨g1,a4,e1,e2,e3,e4,e5,e6,e7,e8⟩:=m w rk;have a6:=x w g1 a4 rk e1;have J:=Z w g1 a4 rk e1;rw[<-hr]at a6 J;rw[<-V]at J;exact .pq (I.HM N j hd y (by assumption) e2 e3 e4 e5 e6 e7 e8 a6 J)
 | @send f _ _ _ a4 k s _ _ _ v z n D Q y m x Z=>subst B;refine .pq (I.KH N O j hT (by rw[hr];exact D) m a0 x λl k1=> ?_);grind
 | @recv f _ _ _ a4 k s _ _ _ q z n D Q y m x=>subst B;refine .pq (I.KG N O j hT (by rw[hr];exact D) a0 m λl v k1 M=> ?_);grind
 | @shut f _ _ _ a4 s _ _ _ q z n D Q y m x=>subst B;refine .pq (I.KI N O j hT (by rw[hr];exact D) a0 m λl k1=> ?_);grind
 | @close f _ _ a4 s _ _ g1 _ o n D Q y m x Z h6=>subst B;refine .pq (I.Hy N j hT (by rw[hr];exact D) y m x hd (λl a8 a9 a b tm k1 M=>by rw[a2];exact Z l a8 a9 a b tm k1 M) λl k1=> ?_);grind
 | @wait f _ _ _ _ _ _ W D Q y=>
  have X:i=0:=by simpa using W
  subst X;rw[I.K0]at B;subst B;refine .again (I.KJ D N O j hT λl b k=> ?_);grind
 | @sy f _ _ b _ _ _ _ gl D Q y m x Z h6=>
  have X:=I.MT il (by rw[j];rfl) (λs=>by rw[j];simp);subst X;rw[I.K0]at B;subst B;refine .pq (I.KE D N j hT gl y (λl v k M k3 k4=>by rw[H];exact x l v k M k3 k4) (λl k=> ?_) λl v k M k3 k4=> ?_)
  ·rw[ug,hr,V,hd];exact Z l k
  grind
 | @Ct f _ _ vs _ _ _ gh gm _ D Q y m x Z h6 h7 h8=>
  have X:=I.MT il (by rw[j];rfl) (λs=>by rw[j];simp);subst X;rw[I.K0]at B;subst B;refine .pq (I.Ok D N j hT y m (λl k M=>by rw[H];exact Z l k M) (λl v k M k3=>by rw[H];exact h6 l v k M k3) (λl k=> ?_) λl v k M=> ?_)
  ·rw[ug,hr,V,hd];exact h7 l k
  grind
 | @Cu f _ _ _ _ _ g1 _ D Q y m x Z h6=>have X:=I.MT il (by rw[j];rfl) (λs=>by rw[j];simp);subst X;rw[I.K0]at B;subst B;refine .pq (I.Oo D N O j hT m a0 (λl st k M=>by rw[H];exact x l st k M) (λl k M=>by rw[H];exact Z l k M) λl k=> ?_);grind
 | @nX f _ _ _ _ _ g1 _ D Q y m x Z=>have X:=I.MT il (by rw[j];rfl) (λs=>by rw[j];simp);subst X;rw[I.K0]at B;subst B;refine .pq (I.HJ D N j hT y (λl k M=>by rw[H];exact x l k M) λl k=> ?_);grind
 | @acq _ _ _ _ g1 _ D Q y m x=>have X:=I.MT il (by rw[j];rfl) (λs=>YS);subst X;rw[I.K0]at B;subst B;obtain ⟨gs',u,e1,e2,e3⟩:=I.Oj (sl:=sl) D N j y hd YS;rw[V]at e3;exact .join gs' u _ g1 w _ e1 e2 (x w rk e3)
 | @BY f _ _ _ _ g1 _ W D Q y m x Z=>
  have X:i≠0:=by simpa using W
  have Y:=ff.mu (by rw[j];rfl);rw[Y]at B;subst B;refine .pq (I.On D N (I.RU X G) j hT y hd (m w rk) (by rw[a1];have:=x w rk;rw[W]at this;exact this) λl k=> ?_);grind
 | @dec f _ _ _ _ _ _ gd D Q b0 y m x Z=>
  have hl:(A i).ph.ck=true:=by rw[j];rfl
  have Y:=ff.lG hl;rw[Y]at B;subst B;have hn:=I.Qh hl G;have W:(i==0)=false:=by have:=I.eu;simp;omega
  rw[W]at m x Z;refine .pq (I.Ol D N hn j hT gd b0 (by rw[hd];exact y) (λl v wt k M k3 k4=>by rw[a1];exact m l v wt k M k3 k4) (λl k=> ?_) λl v wt k M k3 k4=> ?_)
  ·rw[wU,hr,V,hd];exact x l k
  grind
 | @en f _ _ _ _ _ g1 _ D Q y m x Z=>
  have hl:(A i).ph.ck=true:=by rw[j];rfl
  have Y:=ff.lG hl;rw[Y]at B;subst B;have hn:=I.Qh hl G;have W:(i==0)=false:=by have:=I.eu;simp;omega
  rw[W]at x Z;refine .pq (I.Hz D N hn j hT y (by rw[hd];exact m) (λl k M=>by rw[a1];exact x l k M) λl k=> ?_);grind
 | @eo f _ _ _ _ _ g1 _ D Q y m x Z=>
  have hl:(A i).ph.ck=true:=by rw[j];rfl
  have Y:=ff.lG hl;rw[Y]at B;subst B;have hn:=I.Qh hl G;have W:(i==0)=false:=by have:=I.eu;simp;omega
  rw[W]at x Z;refine .pq (I.HC D N hn j hT y (by rw[hd];exact m) (λl k M=>by rw[a1];exact x l k M) λl k=> ?_);grind
 | @cu f _ _ _ _ _ g1 _ D Q y m x=>
  have hl:(A i).ph.ck=true:=by rw[j];rfl
  have Y:=ff.lG hl;rw[Y]at B;subst B;have hn:=I.Qh hl G;have W:(i==0)=false:=by have:=I.eu;simp;omega
  rw[W]at m x;refine .pq (I.HE D N hn j hT y (λl k M=>by rw[a1];exact m l k M) λl k=> ?_);grind
 | leave h=>grind
end
end
