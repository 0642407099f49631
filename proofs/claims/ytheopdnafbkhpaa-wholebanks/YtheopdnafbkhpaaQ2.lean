/- WholeBanks: part 2. -/
import Derived.Test.YtheopdnafbkhpaaQa
import Derived.Test.YtheopdnafbkhpaaQ1
import Derived.Laws.FloatArith
import Derived.Test.YtheopdnafbkhpaaQ0
import Derived.Test.YtheopdnafbkhpaaRows
import Derived.Laws.Externs
import Derived.Laws.ComplexArith
import Derived.WalkKit
import Derived.Deep.MidRow
import Derived.OwnWalk
import Derived.Deep.Light
import Derived.Laws.AppendOwn
import Derived.Deep.RegionHeld3
import Derived.BigQuiet
import Derived.Deep.QuietTactic
import Derived.Lib.SmallJoins
import Derived.Deep.Upon
set_option maxRecDepth 100000
set_option maxHeartbeats 8000000
set_option linter.unusedVariables false
set_option linter.unusedSimpArgs false
open Array renaming getD_eq_getD_getElem?->o8,getElem?_eq_getElem->p5,getElem?_eq_some_iff->m6,getElem?_push->p9,getElem?_setIfInBounds->p7,replicate->s6
open Bool renaming and_eq_true->E4,false_eq_true->p6
open Classical renaming byContradiction->A5
open Go renaming Act->I2,Addr->x5,BinOp->D8,Calls->n9,Goroutine->z9,Operand->y8,Oper->D4,Program->D6,TypeId->H7,Value->l9,binOp->A8,bits->I7,cell_of_row->C1,execOp->o9,floatBits->o5,frozen_of_row->C8,getD_set_ne->m7,heap_alloc_new->A0,info_parts->B4,madeCells->B1,mem_ready->G3,results->G5,run_callFunc_extern->C5,run_float_arith->F0,run_loadAt_mid->r8,run_loadVar_mid->B5,run_storeAt_mid->F2,undef->U
open Go.Act renaming eval_put->G6,eval->v9,put->F3
open Go.Addr renaming add_mid->G7
open Go.Code renaming region->C0
open Go.Extern.MathFloatBits renaming float64bits->D9,float64frombits->C6
open Go.FloatKind renaming f64->J0
open Go.Instr renaming build->G9,extract->G0,fieldAt->q8,indexAt->s7,loadAt->x0,storeAt->C9,sureAddr->F8
open Go.IntKind renaming i64->J2
open Go.Joins renaming block_setCell->x6
open Go.Obj renaming cells->o2
open Go.Op renaming equalIn->I3,floatArith->z7,negFloat->r9
open Go.Op.Complex renaming arith->A9
open Go.Question renaming forced->x8,nanBits->w9
open Go.Region renaming binds->o7,ready->G4,wanted->z6
open Go.RowKit.Below renaming heap_setCell->D5,refl->o3
open Go.Value renaming agg->C4,complex->G1,int->J1,pointer->J4,slice->J3
open Go.World renaming cell?_of_block->o4,cell?->r6,frozen?_of_block->z2,frozen?->A7,grownBy_alloc->m9,rangeAt_setCells_same->v7,setCell->C7
open Ieee renaming Datum->F7,signed->A6
open Ieee.Datum renaming number->D7,order->z4,product->I1,quotient->r7,sum->F6
open Ieee.Format renaming nearest->H0,order->I5,word->I6
open Ieee.Toward renaming cut->I8
open Int renaming mul_nonneg->A2,natCast_mul->E9,neg_mul->G8
open List renaming all_eq_true->q9,getElem?_eq_some_iff->o0,getElem?_toArray->B6,range->p8,replicate->C3,setIfInBounds_toArray->w8,set_cons_succ->A3,set_cons_zero->A4
open Nat renaming add_sub_cancel->D2,le_refl->n7,le_trans->y3,log2_self_le->E2,lt_log2_self->E3,lt_of_lt_of_le->n8,lt_succ_self->B0,mod_lt->I0,mul_assoc->F9,mul_le_mul_right->B8,mul_one->E5,pos_of_ne_zero->D1,pow_add->E6,shiftLeft_eq->z3,two_pow_pos->E8,zero_add->z8
open Option renaming getD_some->z5,isSome_iff_exists->o6,map_eq_some_iff->y6,map_some->x9,some->S
open Option.some renaming injEq->I4,inj->m5
open Or renaming inl->H8,inr->H9
open Prod renaming lex->I9
open Rat renaming intCast_lt_intCast->B2,intCast_natCast->q5,intCast_neg->x7,le_of_lt->r5,mul_assoc->G2,mul_le_mul_of_nonneg_right->m8,mul_lt_mul_of_pos_right->q7,mul_one->E7
namespace Go.Proofs.Ytheopdnafbkhpaa
open Go.Conc Go.ConcN Go.RowKit
variable {A:List Frame}{B L Y n s:Nat}{C:World->Prop}{D:Value->World->Prop}{E:Env}{F:aq}{H:List Item}{I:Goroutine}{J:Nat->Value->World->Prop}{M:Nat->Bool}{N:cH}{O:Sx}{P:Program}{Q:Exit->Act->World->Prop}{T u:Rat}{V:Nat->Value->Prop}{W w:World}{Z:List bC}{a:aq->Goroutine->World->Nat->Prop}{b:ca->Tr->bC->List Ak->aq->Goroutine->World->Prop}{e:Act}{f:Array Bool}{g:Array Oper}{h:List Value}{i:Array Goroutine}{j:Nat->Nat->Value->Prop}{k:aU}{l:Int}{m:Option Nat}{o:Oper}{p:Array TypeId}{q:Frame}{r v:Value}{t:TypeId}{x:Operand}{y:Array Value}
theorem Zh{p:Prop}(h:p:=by kernel_rfl):p:=h
theorem Zi{p:Prop}(h:p:=by simp[Ph.late]):p:=h
theorem Zj{p:Prop}(h:p:=by unfold maxLen;omega):p:=h
theorem Zk{p:Prop}(h:p:=by go_simp):p:=h
theorem Zl{p:Prop}(h:p:=by go_num):p:=h
section
open Go.ConcR (KK WgAt stA smA rd wr)
section
variable {P:Program}{End:aq->Goroutine->World->Nat->Prop}{gs gs':Array Goroutine}{w w':World}{t u:Trace}{A A':Nat->ff}{C':Nat->Bool}{g g':Goroutine}{sl:Option (Nat×Nat)}
def ON (a:Array z9)(A:Nat->ff):Nat×List Tr×Nat:=((A 0).ph.db.length,trees a.size A,runs a)
@[reducible] def OM:WellFoundedRelation (Nat×List Tr×Nat):=I9 ⟨(· < ·),Nat.lt_wfRel.wf⟩ (I9 ⟨Relation.TransGen LL,⟨LL.Cq⟩⟩ ⟨(· < ·),Nat.lt_wfRel.wf⟩)
theorem Gr.rel (h:Gr gs' A' i A):OM.rel (ON gs' A') (ON i A):=by
 cases h with
 | db h=>exact Prod.Lex.left _ _ h
 | tree a b=>unfold ON;grind
 | run a b c=>unfold ON;grind
theorem Inv.awake (c:Inv P E a n gs w t A M): ∀I∈gs,awake I:=by
 intro I d s b;obtain ⟨B,j,rfl⟩:=Array.mem_iff_getElem.1 d;have e:gs[B]? =S gs[B]:=YR;cases c.sit B _ e with
 | gone f g=>obtain ⟨q,_,i⟩:=cI f g;rcases i.status with h | h<;>(grind)
 | run _ _ h=>grind
 | gO _ _ h=>grind
 | fy _ h=>
  cases h with
  | send _ _ _ _ _ _ _ _ h=>rw[h]at b;cases b
  | recv _ _ _ _ _ _ _ _ _ h=>rw[h]at b;cases b
def gP (P:D6)(d:Sx)(a:aq->z9->World->Nat->Prop)(e:Array z9)(w:World)(t:Trace)(sl:Option (Nat×Nat)):Prop:=
 ∃N gs' w' c b F g' m,runNT P N (crowd e w sl) t=(.next (crowd gs' w' b),c)/\gW P d F gs' w' c g' m/\a F g' w' m
theorem gP.step {b:Option (Nat×Nat)}(h:stepT P (crowd i w sl)=(.next (crowd gs' W b),u))(k:gP P E.S a gs' W (t ++ u) b):gP P E.S a i w t sl:=by obtain ⟨N,c,e,f,d,F,g,m,j,l⟩:=k;exact ⟨N + 1,c,e,f,d,F,g,m,by rw[runNT,h];exact j,l⟩
theorem GU (w:World)(d:Nat):(w.at d).at w.drawn=w:=rfl
theorem gW.at {S:Sx}{m:Nat}(h:gW P S F i (w.at n) t g m):gW P S F i w t g m:=⟨h.main,h.old,h.rI,h.hear,h.led,h.low,h.BH,h.EA,h.gl,h.over,h.QG,h.DC,h.zB,h.out,h.slow,h.pure,h.fr,h.nm⟩
theorem Inv.comes (j:Inv P E a n gs w t A M)(sl:Option (Nat×Nat)):gP P E.S a gs w t sl:=by
 generalize l:ON gs A=m;induction m using OM.wf.induction generalizing gs w t A M sl with
 | _ m k=>
  subst l;obtain ⟨B,I,d,b,o,e,f⟩:=crowd_pick (P:=P) (w:=w) (sl:=sl) j.awake j.goes;cases (j.at d).act o e b with
  | pq h=>obtain ⟨gs',W,u,A',C',g,c,i⟩:=h;exact .step (f.trans g) (k _ i.rel c b R)
  | again h=>obtain ⟨A',c,i⟩:=h;have:=c.at w.drawn;rw[GU]at this;exact k _ i.rel this sl R
  | fin F g c=>exact ⟨0,gs,w,t,sl,F,_,_,R,g.at,c w ⟨sZ F (w.at d) w.drawn,j.ok⟩⟩
  | join gs' u F g' W m g c i=>exact .step (f.trans g) ⟨0,gs',W,t ++ u,b,F,g',m,R,c,i⟩
end
end
section
open Go.ConcR (KK WgAt stA smA rd wr)
section
variable {t:Trace}{g:Goroutine}
def oz (n:Nat)(a:Ph):iR:=λi=>if i=0 then a.nR else if i<n then []else (a.db[i - n]?).getD []
theorem gW.begin{K:aq}(h:gW P O F i w t g n)(Z: ∀b,E.S b↔O b\/(E.on/\b=E.Wg))(C:E.S.n=O.n/\E.S.o=O.o)(M:E.on->WgAt E.ty E.Wg w 0 0/\n<=E.Wg)(D:K.sub F)(a1:K.ok)(b3:E.on-> ¬K.rd E.Wg/\ ∀k,¬K.cl E.Wg k)
  {T:Tr}{r:Ph}(N:r= .over\/ ∃pl s,r= .work false pl s/\pl.length<=1000000)(a2:bX P E true (qF P E 0) (λ_ _=>True) (jc a 0) T 0 (λ_=>none) [] r K g w)
  (a6:eG (oz i.size r,λ_=>False))(b4:One (oz i.size r))(a7:iA (oz i.size r))(sl:Option (Nat×Nat)):gP P E.S a i w t sl:=by
 obtain ⟨g0,a3,a8,Q⟩:=h.main;have zl:0<i.size:=YS;have hq: ∀d,∃q,∀o,0<d->i[d]? =S o->QuitsD P q (Deaf t d) o:=λd=>by
  by_cases f:0<d/\d<i.size
  ·obtain ⟨q,hq⟩:=h.old d i[d] f.1 (p5 f.2);exact ⟨q,λo _ B=>by rw[p5 f.2]at B;cases B;exact hq⟩
  simp_all
 let q:=λd=>Classical.choose (hq d);have a4: ∀d o,0<d->i[d]? =S o->QuitsD P (q d) (Deaf t d) o:=YS;let A:Nat->ff:=λd=>if d=0 then ⟨T,λ_=>none,[],r,K,λ_ _=>True⟩else ⟨.nat (q d),λ_=>none,[],.gone,.none,λ_ _=>True⟩
 have a0:A 0=⟨T,λ_=>none,[],r,K,λ_ _=>True⟩:=rfl;have ai: ∀d,d≠0->A d=⟨.nat (q d),λ_=>none,[],.gone,.none,λ_ _=>True⟩:=YS;have a5:r.ck=false:=by rcases N with rfl | ⟨pl,s,rfl,_⟩<;>rfl
 have G:r≠ .gO/\(∀b,r≠ .load b)/\(∀b,r≠ .wP b)/\r≠ .gD/\r≠ .joined/\r≠ .gone/\r.nL=0:=by rcases N with rfl | ⟨pl,s,rfl,_⟩<;>simp[Ph.nL]
 have hr: ∀d c,(A d).r c=none:=YS;have p: ∀d,d≠0->(A d).F= .none:=YS;have b8:dN i.size A=oz i.size r:=by
  funext d;unfold dN oz;by_cases f:d=0
  ·grind
  ·rw[if_neg f,ai d f];rfl
 have V: ∀b,E.S b->b<w.heap.size:=λb m=>by
  rcases (Z b).1 m with L | ⟨B,rfl⟩
  ·exact h.slow b L
  ·exact cZ (M B).1
 have b5: ∀b,E.S b-> ¬K.rd b/\ ∀k,¬K.cl b k:=λb m=>by
  rcases (Z b).1 m with L | ⟨B,rfl⟩
  ·refine ⟨λh2=>(h.out b L).1 (D.rd b h2),λk h2=> ?_⟩;rcases D.cl b k h2 with W | W
   ·exact (h.out b L).2 k W
   ·exact (h.out b L).1 W.2
  grind
 have hM:Mem E A w:=by
  refine ⟨λd b m=> ?_,λd b m=> ?_,λd b k m=> ?_,λd b k m=> ?_,λd j a9=> ?_,λd b m=> ?_,λd c b m=> ?_,λB=>(Z _).2 (.inr ⟨B,R⟩),V,λd=> ?_,λB=> ?_,λc b m=> ?_,?_⟩
  ·by_cases f:d=0
   ·subst f;exact a1.wr b m
   ·rw[p d f]at m;exact False.elim m
  ·by_cases f:d=0
   ·subst f;exact h.DC b (D.rd b m)
   ·rw[p d f]at m;exact False.elim m
  ·by_cases f:d=0
   ·subst f;rcases D.cl b k m with W | W
    ·exact h.zB b k W
    ·exact h.DC b W.2
   ·rw[p d f]at m;exact False.elim m
  ·by_cases f:d=0
   ·subst f;exact a1.cl b k m
   ·rw[p d f]at m;exact False.elim m
  ·by_cases f:d=0
   ·rw[p j (λe=>a9 (f.trans e.symm))];exact ⟨λ_ _ h=>h,λ_ h=>False.elim h,λ_ _ _ h=>h,λ_ _ _ h=>h,λ_ _ h=>False.elim h⟩
   ·rw[p d f];exact ⟨λ_ h=>False.elim h,λ_ _ h=>h,λ_ _ h=>False.elim h,λ_ _ h=>False.elim h,λ_ _ _ h=>h⟩
  ·by_cases f:d=0
   ·grind
   ·rw[p d f];exact ⟨λh=>h,λ_ h=>h⟩
  ·grind
  ·by_cases f:d=0
   ·subst f;intro b m;rw[C.1]at m;exact h.pure.sub D b m
   ·rw[p d f];exact λ_ _=>⟨λh=>h,λ_ h=>h⟩
  ·rw[C.1];exact y3 h.nm (M B).2
  ·grind
  ·rw[C.1];exact h.fr.1
 have hV:Vn i.size i.size A=0:=by
  unfold Vn;rw[sumTo_congr (g:=λ_=>0) λj hj=>YS];have: ∀k,sumTo k (λ_=>0)=0:=λk=>by induction k with | zero=>rfl | succ k ih=>assumption
  rw[this,a0];simpa using G.2.2.2.2.2.2
 have b0:E.ok w:=⟨λB=>⟨_,_,(M B).1⟩,by rw[C.1];exact h.fr.1,by rw[C.1,C.2];exact h.fr.2.1,by rw[C.2];exact h.fr.2.2⟩;have b6: ∀ {F H:aq}{l:Loc},F.sub H->Wl F l->Wl H l:=λ{F H l} J h=>by
  cases l with
  | cell X=>rcases h with h | h;exact .inl (J.wr _ h);exact (J.cl _ _ h).elim .inr λh=> .inl h.1
  | obj y=>exact J.wr _ h
  | _=>exact h
 have b7: ∀ {F H:aq}{l:Loc},F.sub H->Rl F l->Rl H l:=λ{F H l} J h=>by
  cases l with
  | cell X=>rcases h with h | h;exact .inl (J.rd _ h);exact (J.cl _ _ h).elim .inr λh=> .inl h.2
  | obj y=>exact J.rd _ h
  | _=>exact h
 have I:Inv P E a i.size i w t A (λ_=>false):=by
  constructor
  ·exact zl
  ·omega
  ·intro d o B;by_cases f:d=0
   ·subst f;rw[a3]at B;cases B;refine .run G.2.2.2.2.2.1 ?_ Q;rw[a8,h.rI];unfold eE;rw[show (A 0).K=K from ff.mu a5];exact a2
   ·refine .gone YS ?_;unfold eE;rw[ai d f];exact .leave (a4 d o YP B)
  ·grind
  ·exact h.hear
  ·grind
  ·exact a5
  ·omega
  ·exact b0
  ·exact hM
  ·refine h.led.tI (λl ⟨X,e,J⟩=>⟨X,e,(Z _).2 (.inl J)⟩) (λl ⟨X,e,J⟩=> ?_) (λd l u=> ?_) (λd l u=> ?_)
   ·rcases (Z _).1 J with L | ⟨B,L⟩
    ·exact .inl ⟨X,e,L⟩
    ·refine .inr (dg h.low ?_);rw[e];simp only[Loc.low];grind
   ·unfold WA at u;by_cases f:d=0
    ·grind
    ·rw[p d f]at u;cases l with
     | cell X=>rcases u with u | u<;>exact False.elim u
     | _=>exact False.elim u
   ·rcases u with u | ⟨c,x,hc,_⟩
    rotate_left
    ·grind
    by_cases f:d=0
    ·grind
    ·rw[p d f]at u;cases l with
     | cell X=>rcases u with u | u<;>exact False.elim u
     | obj y=>exact False.elim u
     | _=>exact False.elim u
  ·exact λop b1=>MemAct.low_mono h.BH (h.low op b1)
  ·exact h.gl
  ·exact λk gk hk b2 hc=> .inl (h.over k gk hk b2 hc)
  ·omega
  ·exact h.EA
  ·intro B;refine .plain G.1 (λb e=>absurd e (G.2.1 b)) (λb e=>absurd e (G.2.2.1 b)) (λ_=>hV) ?_ λj h0 L=>YP;grind
  ·grind
  ·grind
  ·grind
  ·grind
  ·simp
  ·grind
  ·grind
  ·grind
  ·intro c hc;cases hc
  ·intro d j gi gj x v z z' q' Y b9 e1 e2;by_cases f:d=0
   ·subst f;rw[a3]at Y;cases Y;rw[e1]at Q;cases Q
   ·have:=(a4 d gi YP Y).status;rw[e1]at this;rcases this with h | h<;>cases h
  ·omega
  ·grind
  ·omega
  ·omega
  ·show i.size + r.db.length<=_;rcases N with rfl | ⟨pl,s,rfl,u⟩
   ·simp[Ph.db]
   ·simp only[Ph.db];omega
 exact I.comes sl
end
end
section
open Go.ConcR (KK WgAt stA smA)
section
variable {P:Program}{Fin:aq->Goroutine->World->Nat->Prop}{S:Sx}{F F1:aq}{g:Goroutine}{w:World}{m:Nat}
def Way (P:D6)(a:aq->z9->World->Nat->Prop)(c:Sx)(F:aq)(g:z9)(w:World)(m:Nat):Prop:= ∀b t d,gW P c F b w t g m-> ∃e,gP P e a b w t d
def E0 (a:Sx):Env:=⟨0,0,λ_ _ _=>False,a,False⟩
def E1 (V:Nat->Nat->l9->Prop)(b:Sx)(a:Nat):Env:=⟨101,a,V,b.add a,True⟩
theorem gP.Su {S1:Sx}{t:Trace}{g:Option (Nat×Nat)}(h:gP P S1 (Way P a S1) i w t g): ∃b,gP P b a i w t g:=by obtain ⟨N,c,y,j,d,F,z,n,k,l,m⟩:=h;obtain ⟨b,M,e,o,p,f,q,r,s,u,v,x⟩:=m c j d l;exact ⟨b,N + M,e,o,p,f,q,r,s,by rw[runNT_add,k];exact u,v,x⟩
theorem JB{ph:Ph}(f:ph.nR= [])(g: ∀i:Nat,(ph.db[i]?).getD []= []):eG (oz n ph,λ_=>False)/\One (oz n ph)/\iA (oz n ph):=by
 have h: ∀i,oz n ph i= []:=λi=>by
  unfold oz;split
  ·exact f
  ·split
   ·rfl
   ·exact g _
 refine ⟨.done h,⟨λi j c d=> ?_,λi j c d=> ?_⟩,λi a b c d=> ?_⟩
 ·rw[h i]at d;obtain ⟨x,e,_⟩:=d;cases e
 ·rw[h i]at d;obtain ⟨x,e,_⟩:=d;cases e
 simp_all
theorem Way.solo (e:F1.sub F)(c:F1.ok)(h:aa P (E0 O) true (mC P (E0 O)) (λ_ _=>True) (Way P a O) 0 (λ_=>none) [] .over F1 I w):Way P a O F I w m:=by intro f t g d;obtain ⟨T,j⟩:=h;obtain ⟨k,l,o⟩:=JB (n:=f.size) (ph:= .over) R (λi=>YV);exact gP.Su (S1:=O) (gW.begin (E:=E0 O) d (λb=>by simp[E0]) ⟨R,R⟩ (λh=>h.elim) e c (λh=>h.elim) (.inl R) (T:=T) j k l o g)
theorem Way.phase {V:Nat->Nat->l9->Prop}{Wg:Nat}{pl:List (List Ak)}{s:List Ak}(g:WgAt 101 Wg w 0 0)(m:n<=Wg)(i:F1.sub F)(j:F1.ok)(c: ¬F1.rd Wg/\ ∀k,¬F1.cl Wg k)(d:pl.length<=1000000)
  (o: ∀f,0<f->eG (oz f (.work false pl s),λ_=>False)/\One (oz f (.work false pl s))/\iA (oz f (.work false pl s)))
  (h:aa P (E1 V O Wg) true (mC P (E1 V O Wg)) (λ_ _=>True) (Way P a (O.add Wg)) 0 (λ_=>none) [] (.work false pl s) F1 I w):Way P a O F I w n:=by
 intro p t q e;obtain ⟨T,r⟩:=h;obtain ⟨y,l,_⟩:=e.main;obtain ⟨u,v,x⟩:=o p.size (aG l);exact gP.Su (S1:=O.add Wg) (gW.begin (E:=E1 V O Wg) e (λb=>by simp[E1,Sx.add]) ⟨R,R⟩ (λ_=>⟨g,m⟩) i j (λ_=>c) (.inr ⟨pl,s,R,d⟩) (T:=T) r u v x q)
end
section
variable {E':Env}{Sp:ca->Tr->bC->List Ak->aq->Goroutine->World->Prop}{Lg:bC}{End:aq->Goroutine->World->Nat->Prop}{r:ca}{F':aq}{b:Frame}{a:Act}{k:List Item}{cs:List Frame}{i:Nat}{rest:List Nat}{ρ:aU}
theorem aa.Da (ob:Obj)(f:g[i]? =S o)(j:z6 o (yielded g a.tmps)=true)(l:b.kind≠ .early)(m: ∀c,(o9 a.eval o).run P c= .ok (.value (J4 (S ⟨c.heap.size,0,none⟩))) (c.alloc ob))
  (n: ∀c,(o9 a.eval o).events P c #[]= #[])(d: ∀c,RK E F w c->End (F.add c.heap.size (c.heap.size + 1)) (G (b.at (a.put o.dst (J4 (S ⟨c.heap.size,0,none⟩))) (.inRegion g rest::k)) cs) (c.alloc ob) c.heap.size):
  aa P E true Sp Lg End 0 r [] .over F (G (b.at a (.inRegion g (i::rest)::k)) cs) w:=by
 refine ⟨_,.born (es:= #[]) (ob:=ob) (λx=>G (b.at (a.put o.dst (J4 (S ⟨x,0,none⟩))) (.inRegion g rest::k)) cs) R R (λx=>⟨R,R⟩) (λe h=>by simp at h) (λc p=> ?_) d⟩;have:=stepG_value (P:=P) (main:=true) (k:=k) (cs:=cs) (rest:=rest) f j l (m c);have q:listed P b.fn a o c= #[]:=by unfold listed;rw[n c];exact seen_none _ _
 simp_all
theorem dA.kJ{c:Array l9}{d:Nat×Nat}(b:dA ρ W w)(f:ρ[B]? =S (n,.cells))(g:w.heap[n]? =S (.cells c t d))(i:aB ρ y c):dA ρ {W with heap:=W.heap.setIfInBounds B (.cells y t (0,y.size))} w where
 size:=by rw[<-b.size];simp
 inj:=b.inj
 low:=b.low
 et:=b.et
 pos:=b.pos
 cells q x a:=by
  by_cases h:B=q
  ·subst h;rw[f]at a;cases a;exact ⟨y,t,(0,y.size),c,d,by simp[b.size,dP f],g,.inr i,λH j _ _=>⟨Nat.zero_le _,j⟩⟩
  ·obtain ⟨p,r,s,u,v,k,m,o⟩:=b.cells q x a;grind
 num q x a:=by have h:B≠q:=YS;obtain ⟨e,z,l,k,m,o⟩:=b.num q x a;grind
theorem FP.kJ(g:FP ρ w F)(i:ρ[B]? =S (n,.cells))(j:B<w.heap.size)(k:F.rd n):FP ρ {w with heap:=w.heap.setIfInBounds B (.cells y t (0,y.size))} F where
 dc q x hbx hd:=by
  by_cases h:B=q
  ·grind
  ·obtain ⟨b,c,d,e,f⟩:=hd;have a:(w.heap.setIfInBounds B _)[q]? =_:=e;rw[p7,if_neg h]at a;exact g.dc q x hbx ⟨b,c,d,a,f⟩
 wb q x hbx hd:=by
  by_cases h:B=q
  ·subst h;obtain ⟨b,c,d,e,H,f,l⟩:=hd;grind
  ·obtain ⟨b,c,d,e,f⟩:=hd;have a:(w.heap.setIfInBounds B _)[q]? =_:=e;rw[p7,if_neg h]at a;exact g.wb q x hbx ⟨b,c,d,a,f⟩
 num:=g.num
theorem At.kJ {B X:Nat}{c b:Array l9}{e:H7}{f:Nat×Nat}(a:At E ρ W F N w)(d:ρ[B]? =S (X,.cells))(g:w.heap[X]? =S (.cells b e f))(h:aB ρ c b)(i:F.rd X):At E ρ {W with heap:=W.heap.setIfInBounds B (.cells c e (0,c.size))} F N w:=
 ⟨a.bQ.kJ d g h,a.fp.kJ d (by rw[a.bQ.size];grind) i,a.fg,a.cells,a.held⟩
theorem At.NU{c:Array l9}{e:Nat×Nat}(a:At E ρ W F N w)(d:w.heap[L]? =S (.cells c t e))(f:0<L)(g: ∀ (n:Nat) H,ρ[n]? =S (L,H)->H= .gone)(i:aB ρ y c)(k:F.rd L):
  At E (ρ.push (L,.cells)) {W with heap:=W.heap.push (.cells y t (0,y.size))} F N w:=by
 have l:At E (ρ.push (L,.cells)) {W with heap:=W.heap.push (.cells #[] t)} F N w:=⟨a.bQ.wQ d f g,a.fp.wQ a.bQ,a.fg,a.cells,a.held⟩;have m:=l.kJ (B:=ρ.size) YR d (aB.mono (gB ρ _) i) k;have o:(W.heap.push (o2 #[] t)).setIfInBounds ρ.size (.cells y t (0,y.size))=W.heap.push (.cells y t (0,y.size)):=by
  rw[<-a.bQ.size];apply Array.ext_getElem?;intro j;rw[p7,p9,p9];by_cases b:W.heap.size=j
  ·subst b;simp
  ·rw[if_neg b,if_neg (λh=>b h.symm),if_neg (λh=>b h.symm)]
 grind
theorem At.move (a:At E ρ W F N w)(g: ∀b,F.rd b->F'.rd b)(i: ∀b,F.wr b->F'.wr b)(d:FG E' F' w)(e: ∀b j,¬F'.cl b j):At E' ρ W F' bO w:=
 ⟨a.bQ,⟨λb x c f=>g x (a.fp.dc b x c f),λb x c f=>i x (a.fp.wb b x c f),λb x c=>g x (a.fp.num b x c)⟩,d,λb j h=>absurd h (e b j),pQ _ _⟩
theorem xD(b: ∀q,O q->q<w.heap.size)(c:O.old w):FG (E0 O) (.all w.heap.size O) w:=
 ⟨⟨λ_ h=>h.1,λ_ _ h=>h.elim⟩,λ_ _ h=>h.elim,λ_ h=>h.1,λq a=>⟨b q (a.resolve_right λh=>h.1),λh=>h.2 (a.resolve_right λh=>h.1),λ_ h=>h⟩,⟨λh=>h.elim,c⟩,aq.mX _ _⟩
theorem At.joined(a:At (E1 j O n) ρ W F N w):At (E0 (O.add n)) ρ W (.all w.heap.size (O.add n)) bO w:=
 a.move (λq h=>⟨a.fg.dZ q h,λb=>(a.fg.out q (.inl b)).2.1 h⟩) (λq h=>⟨⟨a.fg.dZ q (a.fg.ok.wr q h),λb=>(a.fg.out q (.inl b)).2.1 (a.fg.ok.wr q h)⟩,Nat.not_lt.1 λc=>(a.fg.pure q c).1 h⟩) (xD (λq c=>(a.fg.out q (.inl c)).1) a.fg.live.2) λ_ _ h=>h
end
end
section
open Go.ConcR (KK WgAt stA smA)
abbrev cO (a:aq->z9->World->Nat->Prop)(b:Sx)(F:aq)(g:z9)(w:World):Prop:=aa Try.prog (E0 b) true (mC Try.prog (E0 b)) (λ_ _=>True) (Way Try.prog a b) 0 (λ_=>none) [] .over F g w
def DR (F:aq)(c:Nat->Nat->Prop)(a s n W:Nat):aq:=⟨λb=>F.rd b/\b≠a,fi c W 0,Qz a s n W 0⟩
section
variable {S:Sx}{v:World}{W R Rl:Nat}{Wc:Nat->Nat->Prop}{V:Nat->Nat->Value->Prop}
theorem At.share {H:Nat->Option Obj}(y: ∀b o,H b=some o->b≠R/\ ∀g,¬Wc g b)(a:At (E0 S) k v F ⟨λ_ _=>none,H,λ_=>none⟩ w)(z:k[Rl]? =some (R,.cells))(I: ∃q e,v.heap[Rl]? =some (.cells q e (0,0))/\q.size=s * n)(p: ∀g x,Wc g x->F.wr x/\x≠R):
  At (E1 V S w.heap.size) (k.push (w.heap.size,.cells)) (dL (k.push (w.heap.size,.cells)) (λx=>x=R) (fi Wc W 0) {v with heap:=v.heap.push (.cells #[] 101)}) (DR F Wc R s n W) (yU R (s * n) H) (w.alloc (.cells #[.int .u64 0,.int .u32 0] 101))/\(DR F Wc R s n W).sub (F.add w.heap.size (w.heap.size + 1)):=by
 have r:=a.bQ.low Rl R _ z YQ;have d:=Grow.alloc w (.cells #[.int .u64 0,.int .u32 0] 101);have J:=a.grow d;have m:(w.alloc (.cells #[.int .u64 0,.int .u32 0] 101)).heap[w.heap.size]? =some (.cells #[.int .u64 0,.int .u32 0] 101):=by show (w.heap.push _)[w.heap.size]? =_;simp
 have P:(w.alloc (.cells #[.int .u64 0,.int .u32 0] 101)).heap.size=w.heap.size + 1:=by show (w.heap.push _).size=_;simp
 generalize w.alloc (.cells #[.int .u64 0,.int .u32 0] 101)=w' at *;have f:=J.bQ.wQ m a.bQ.pos.2 λi K Q=>A5 λu=>by have:=a.bQ.low i _ K Q u;omega
 have L:=gB k w.heap.size _ _ z;have A:FP (k.push (w.heap.size,.cells)) {v with heap:=v.heap.push (.cells #[] 101)} F:=a.fp.wQ a.bQ;obtain ⟨q,e,M,T⟩:=I;have l:0<s * n->F.rd R/\F.wr R:=λh=>⟨a.fp.dc Rl R z ⟨q,e,_,M,YP⟩,a.fp.wb Rl R z ⟨q,e,_,M,0,YP,λh=>by simp at h⟩⟩;have E: ∀x,fi Wc W 0 x->F.wr x/\F.rd x/\x≠R:=λx ⟨g,_,_,B⟩=>⟨(p g x B).1,a.fg.ok.wr x (p g x B).1,(p g x B).2⟩;refine ⟨⟨f.mask,A.dL f (λx h B=>⟨h,B⟩) (λx h=>⟨h,(E x h).2⟩) (λb x c=>⟨A.num b x c,?_⟩),⟨⟨λb h=>(E b h).2,λb i h X=>X.2 h.1⟩,λb i h=>by rw[h.1];omega,λb h=>by have:=a.fg.dZ b h.1;omega,λb c=> ?_,⟨λ_=>⟨0,0,m⟩,Sx.dR (S:=S.add w.heap.size) a.fg.live.2 d.size (λb c=>d.same b (n8 c a.fg.live.2.1)) ⟨d.os,d.output⟩⟩,λb c=>⟨λh=>(a.fg.pure b c).1 (E b h).1,λi h=>(a.fg.pure b c).1 (by rw[h.1];exact (l (by have:=h.2.1;omega)).2)⟩⟩,λb j c=> ?_,λb o c=>⟨⟨(a.held b o c).1,(y b o c).1⟩,λ⟨g,_,_,J⟩=>(y b o c).2 g J,(d.same b (a.fg.dZ b (a.held b o c).1)).trans (a.held b o c).2.2⟩⟩,⟨λb h=> .inl h.1,λb h=> .inl (E b h).1,λb i h=> .inr ?_⟩⟩
 ·rintro rfl;have:=f.inj b Rl x _ _ c L YQ YQ;grind
 ·have t:S b\/b=w.heap.size:=c.elim id λh=> .inr h.2;rcases t with t | rfl
  ·obtain ⟨C,G,D⟩:=a.fg.out b (.inl t);refine ⟨YP,λh=>G h.1,λK u=>G ?_⟩;rw[u.1];exact (l (by have:=u.2.1;omega)).1
  ·exact ⟨YP,λh=>by have:=a.fg.dZ _ h.1;omega,λK u=>by have:=u.1;omega⟩
 ·obtain ⟨rfl,hj,_⟩:=c;obtain ⟨c1,e1,f1,N,Y,C,G,D,h4⟩:=a.bQ.cells Rl b z;rw[M]at C;cases C;have h5:N.size=q.size:=by
   rcases D with D | D
   ·grind
   ·exact D.1.symm
  refine ⟨N,e,Y,N[j]'YP,by rw[d.same b r];exact G,YR,λ⟨h6,h7⟩=> ?_,(λu' Z=>by cases Z),λn' O=> ?_⟩
  ·grind
  ·simp only[yU,if_true,I4]at O;omega
 ·have C:=h.1;have:=l (by have:=h.2.1;omega);rw[C];exact ⟨.inl this.2,.inl this.1⟩
end
end
def p2 (k:Int):Rat:=(2:Rat) ^ k
theorem dI (k:Int):0<p2 k:=Rat.zpow_pos YQ
theorem dx (a b:Int):p2 (a + b)=p2 a * p2 b:=Rat.zpow_add YQ a b
theorem ef (n:Nat):p2 n=((2 ^ n:Nat):Rat):=by unfold p2;rw[Rat.zpow_natCast,Rat.natCast_pow];rfl
theorem oO:p2 0=1:=YV
theorem kE (a b:Int)(h:a<=b):p2 b=((2 ^ (b - a).toNat:Nat):Rat) * p2 a:=by rw[<-ef,<-dx];grind
theorem one_le_pow (n:Nat):(1:Rat)<=((2 ^ n:Nat):Rat):=by have:=E8 n;exact_mod_cast this
theorem mW {b:Int}(h:l<=b):p2 l<=p2 b:=by rw[kE l b h];have a:=one_le_pow (b - l).toNat;have c:=dI l;have d:=m8 a (r5 c);grind
theorem rS {b:Int}(h:p2 l<p2 b):l<b:=by apply Int.lt_of_not_ge;intro a;have:=mW a;grind
theorem fU {P:Rat}(a:0<P)(h:u * P<=T * P):u<=T:=Rat.le_of_mul_le_mul_right h a
def AF (c V:Rat):Prop:=
 ∃ (a:Int)(b:Nat),c=b * p2 a/\2 * c<=2 * V + p2 a/\2 * V<=2 * c + p2 a/\ -1074<=a/\(a= -1074\/p2 (52 + a)<=V)/\V<=p2 (53 + a)
theorem oL(a:0<u)(h:2 * ((n:Rat) * u)<=2 * ((B:Rat) * u) + u):n<=B:=by
 have b:((2 * n:Nat):Rat) * u<=((2 * B + 1:Nat):Rat) * u:=by
  push_cast
  grind
 have c:=fU a b;have d:2 * n<=2 * B + 1:=by exact_mod_cast c
 omega
theorem Fu (k:Nat)(q l:Int)(a:k<9007199254740992)(h:q<l):(k:Rat) * p2 q<p2 (52 + l):=by
 have b:p2 (53 + q)<=p2 (52 + l):=mW YP;rw[dx,show (53:Int)=((53:Nat):Int)from rfl,ef]at b;have c:(k:Rat)<((2 ^ 53:Nat):Rat):=by exact_mod_cast a
 have d:=q7 c (dI q);grind
theorem jL(i:AF u T)(k:Nat)(q:Int)(j:k<9007199254740992)(p: -1074<=q)(b:T=k * p2 q):u=T:=by
 obtain ⟨a,c,rfl,d,f,r,l,_⟩:=i;have g:=dI a;by_cases m:a<=q
 ·rw[kE a q m]at b;have e:T=((k * 2 ^ (q - a).toNat:Nat):Rat) * p2 a:=by rw[b];push_cast;grind
  rw[e]at d f ⊢;have n:=oL g d;have o:=oL g f;rw[Nat.le_antisymm n o]
 ·have s:p2 (52 + a)<=T:=by rcases l with h | h;omega;exact h
  have t:=Fu k q a j YP;grind
theorem Dp (b:Bool)(n a:Nat):2 * (Ieee.Toward.even.cut b n a * 2 ^ a)<=2 * n + 2 ^ a/\2 * n<=2 * (Ieee.Toward.even.cut b n a * 2 ^ a) + 2 ^ a:=by
 unfold I8;by_cases h:a<=n.log2 + 2
 ·rw[Nat.min_eq_left h,Nat.one_shiftLeft];dsimp only;have g:=Nat.two_pow_pos a;have e:=Nat.div_add_mod n (2 ^ a);have l:=Nat.mod_lt n g;generalize n % 2 ^ a=r at *;generalize n / 2 ^ a=q at *;generalize 2 ^ a=G at *;subst e;have i:G * q=q * G:=YS;rw[i];by_cases c:G<2 * r
  ·grind
  ·rw[decide_eq_false c];by_cases d:G=2 * r
   ·subst d;rcases (by omega:q % 2=0\/q % 2=1)with f | f<;>simp[f,Nat.add_mul]<;>generalize q * (2 * r)=X<;>omega
   grind
 ·have m:n<2 ^ (n.log2 + 1):=Nat.lt_log2_self;have c:2 ^ (n.log2 + 1) * 2=2 ^ (n.log2 + 2):=by rw[<-Nat.pow_succ]
  have d:2 ^ (n.log2 + 2)<=2 ^ a:=Nat.pow_le_pow_right YP YP;rw[Nat.min_eq_right YP,Nat.one_shiftLeft];dsimp only;have j:n / 2 ^ (n.log2 + 2)=0:=Nat.div_eq_of_lt YP;have k:n % 2 ^ (n.log2 + 2)=n:=Nat.mod_eq_of_lt YP;rw[j,k];generalize 2 ^ (n.log2 + 2)=G at *;generalize 2 ^ a=D at *;rw[decide_eq_false (by omega: ¬G<2 * n)];grind
def sg (s:Bool)(v:Rat):Rat:=if s then -v else v
def vl (s:Bool)(m:Nat)(p:Int):Rat:=sg s (m * p2 p)
def Is (b:Nat)(v:Rat):Prop:=b<18446744073709551616/\ ∃s m p,Ieee.double.read b= .number s m p/\vl s m p=v
theorem ir (a:Bool)(r:Nat):Ieee.double.word a r=(if a then 9223372036854775808 else 0) + r:=by
 unfold I6;cases a
 ·rw[if_neg YQ,if_neg YQ];omega
 rfl
theorem nO (a:Bool)(r:Nat)(h:r<9218868437227405312):Ieee.double.read (Ieee.double.word a r)=
  if r<4503599627370496 then .number a r (-1074)else .number a (4503599627370496 + r % 4503599627370496) (-1074 + (r / 4503599627370496 - 1:Nat)):=by
 rw[ir];show (if ((if a then 9223372036854775808 else 0) + r) % 9223372036854775808<4503599627370496 then Ieee.Datum.number (((if a then 9223372036854775808 else 0) + r) / 9223372036854775808 % 2==1) (((if a then 9223372036854775808 else 0) + r) % 9223372036854775808) (-1074)else if ((if a then 9223372036854775808 else 0) + r) % 9223372036854775808<9218868437227405312 then
  Ieee.Datum.number (((if a then 9223372036854775808 else 0) + r) / 9223372036854775808 % 2==1) (4503599627370496 + ((if a then 9223372036854775808 else 0) + r) % 9223372036854775808 % 4503599627370496) (-1074 + (((if a then 9223372036854775808 else 0) + r) % 9223372036854775808 / 4503599627370496 - 1:Nat))else _)=_
 have b:((if a then 9223372036854775808 else 0) + r) % 9223372036854775808=r:=by cases a<;>simp<;>omega
 have c:(((if a then 9223372036854775808 else 0) + r) / 9223372036854775808 % 2==1)=a:=by
  cases a
  ·simp;omega
  ·simp;omega
 rw[b,c,if_pos h]
theorem sY (b:Bool)(i a:Nat)(j:i<=2044)(k:a<=9007199254740992)(h:i=0\/4503599627370496<=a):
  Is (Ieee.double.word b (min (i * 4503599627370496 + a) 9218868437227405312)) (sg b (a * p2 ((i:Int) - 1074))):=by
 have e:i * 4503599627370496 + a<9218868437227405312:=YP;rw[Nat.min_eq_left (Nat.le_of_lt e)];refine ⟨?_,?_⟩
 ·rw[ir];grind
 ·rw[nO _ _ e];by_cases f:i * 4503599627370496 + a<4503599627370496
  ·rw[if_pos f];have:i=0:=YP;subst this;refine ⟨_,_,_,R,?_⟩;unfold vl;simp
  ·rw[if_neg f];refine ⟨_,_,_,R,?_⟩;unfold vl;congr 1
   by_cases g:a=9007199254740992
   ·subst g;have c:(i * 4503599627370496 + 9007199254740992) / 4503599627370496=i + 2:=YP;have d:(i * 4503599627370496 + 9007199254740992) % 4503599627370496=0:=YP;rw[c,d];have:(-1074 + ((i + 2 - 1:Nat):Int))=((i:Int) - 1074) + ((1:Nat):Int):=YP;rw[this,dx,ef];grind
   ·have l:4503599627370496<=a:=by omega
    have c:(i * 4503599627370496 + a) / 4503599627370496=i + 1:=YP;have d:(i * 4503599627370496 + a) % 4503599627370496=a - 4503599627370496:=YP;rw[c,d,show 4503599627370496 + (a - 4503599627370496)=a by omega];congr 2
theorem mT (f:Bool)(c:Nat)(a:Int)(h:(c:Rat) * p2 a<p2 1023):
  ∃u,Is (Ieee.double.nearest f c a) (sg f u)/\AF u (c * p2 a):=by
 by_cases n:c=0
 ·subst n;refine ⟨0,?_, -1074,0,?_⟩
  ·have o:=sY f 0 0 YP YP (H8 R);have e:Ieee.double.nearest f 0 a=Ieee.double.word f (min (0 * 4503599627370496 + 0) 9218868437227405312):=by unfold Ieee.Format.nearest;rw[if_pos R];rfl
   grind
  ·have p:=dI (-1074);have J:=dI (53 + -1074);grind
 ·have w:=E2 n;have x:c<2 ^ (c.log2 + 1):=E3;generalize y:c.log2=L at *;have i:=dI a;have K:p2 ((L:Int) + a)<=c * p2 a:=by rw[dx,ef];exact m8 (by exact_mod_cast w) (r5 i)
  have z:(c:Rat) * p2 a<p2 (((L + 1:Nat):Int) + a):=by rw[dx,ef];exact q7 (by exact_mod_cast x) i
  have A:(L:Int) + a<1023:=rS YS;obtain ⟨b,k⟩: ∃b:Int,b=max (a + L - 52) (-1074):=⟨_,R⟩;have B:Ieee.double.nearest f c a=Ieee.double.word f (min ((b - (-1074)).toNat * 4503599627370496 + Ieee.Toward.even.cut f (c<<<(a - b).toNat) (b - a).toNat) 9218868437227405312):=by rw[k,<-y];unfold Ieee.Format.nearest;rw[if_neg n];rfl
  have l:=Dp f (c<<<(a - b).toNat) (b - a).toNat;rw[B];generalize M:Ieee.Toward.even.cut f (c<<<(a - b).toNat) (b - a).toNat=d at l;rw[z3]at l;have p:=dI b;have v:2 * ((d:Rat) * p2 b)<=2 * ((c:Rat) * p2 a) + p2 b/\2 * ((c:Rat) * p2 a)<=2 * ((d:Rat) * p2 b) + p2 b:=by
   by_cases q:b<=a
   ·have r:(b - a).toNat=0:=by omega
    rw[r]at l;rw[kE b a q];generalize (a - b).toNat=j at *;have C:d=c * 2 ^ j:=YP;rw[C];push_cast
    constructor<;>grind
   ·have r:(a - b).toNat=0:=by omega
    rw[r]at l;rw[kE a b YP];generalize (b - a).toNat=j at *;rw[Nat.pow_zero,E5]at l;have D:((2 * (d * 2 ^ j):Nat):Rat)<=((2 * c + 2 ^ j:Nat):Rat):=by exact_mod_cast l.1
    have E:((2 * c:Nat):Rat)<=((2 * (d * 2 ^ j) + 2 ^ j:Nat):Rat):=by exact_mod_cast l.2
    have F:=m8 D (r5 i);have G:=m8 E (r5 i);push_cast at F G ⊢
    constructor<;>grind
  have s:d<=9007199254740992:=by have m:p2 (((L + 1:Nat):Int) + a)<=p2 (((53:Nat):Int) + b):=mW YP;rw[dx,dx,ef,ef]at m;rw[dx,ef]at z;have:d<=2 ^ 53:=oL p YS;exact this
  have t:(b - (-1074)).toNat=0\/4503599627370496<=d:=by
   by_cases g:b= -1074
   ·left;omega
   ·right;have m:p2 (((52:Nat):Int) + b)<=p2 ((L:Int) + a):=YS;rw[dx,ef]at m;have:2 ^ 52<=d:=oL p YS;exact this
  have o:=sY f (b - (-1074)).toNat d YP s t;have H:(((b - (-1074)).toNat:Nat):Int) - 1074=b:=YP;rw[H]at o;have I:(c:Rat) * p2 a<=p2 (53 + b):=by have m:p2 (((L + 1:Nat):Int) + a)<=p2 (53 + b):=mW YP;grind
  refine ⟨_,o,b,d,R,v.1,v.2,YP,?_,I⟩;grind
theorem Fs (s:Bool)(v:Rat):sg (!s) v= - sg s v:=by cases s<;>simp[sg]
theorem LZ (s t:Bool)(u v:Rat):sg (s ^^ t) (u * v)=sg s u * sg t v:=by cases s<;>cases t<;>simp[sg]<;>grind
def MO (a z:Rat):Prop:=(0<=z/\AF a z)\/(z<=0/\AF (-a) (-z))
theorem uE (m:Nat):(0:Rat)<=m:=YS
theorem qA (m:Nat)(p:Int):(0:Rat)<=m * p2 p:=Rat.mul_nonneg (uE m) (r5 (dI p))
theorem kR (s:Bool)(m:Nat)(p:Int)(b: -p2 1023<vl s m p)(c:vl s m p<p2 1023): ∃a,Is (Ieee.double.write (.number s m p)) a/\MO a (vl s m p):=by
 have d:=qA m p;have e:(m:Rat) * p2 p<p2 1023:=by unfold vl sg at b c;cases s<;>simp at b c<;>grind
 obtain ⟨a,f,g⟩:=mT s m p e;refine ⟨_,f,?_⟩;unfold vl;cases s
 ·exact H8 ⟨d,g⟩
 ·refine H9 ⟨by simp only[sg,if_true];grind,?_⟩;simp only[sg,if_true];simp_all
theorem yA (s:Bool)(m a:Nat):((A6 s m a:Int):Rat)=sg s (m * ((2 ^ a:Nat):Rat)):=by
 unfold A6 sg;rw[z3];cases s
 ·rw[if_neg YQ,if_neg YQ,q5];simp
 ·rw[if_pos R,if_pos R,x7,q5];simp
theorem CV (c:Bool)(t:Int)(p:Int):vl (if t=0 then c else t<0) t.natAbs p=(t:Rat) * p2 p:=by
 unfold vl sg;by_cases h:t=0
 ·simp_all
 ·rw[if_neg h];by_cases b:t<0
  ·have e:((t.natAbs:Nat):Rat)= -(t:Rat):=by
    have:((t.natAbs:Nat):Int)= -t:=YP;have a:(((t.natAbs:Nat):Int):Rat)=((-t:Int):Rat):=by rw[this]
    rw[q5,x7]at a;exact a
   grind
  ·have e:((t.natAbs:Nat):Rat)=(t:Rat):=by
    have:((t.natAbs:Nat):Int)=t:=YP;have a:(((t.natAbs:Nat):Int):Rat)=(t:Rat):=by rw[this]
    rw[q5]at a;exact a
   grind
theorem sf (s:Bool)(m:Nat)(i a:Int)(h:a<=i):((A6 s m (i - a).toNat:Int):Rat) * p2 a=vl s m i:=by rw[yA];unfold vl;rw[kE a i h];cases s<;>simp[sg]<;>grind
theorem FO (s t:Bool)(m n:Nat)(i j:Int): ∃a b c,F6 (.number s m i) (.number t n j)=S (.number a b c)/\vl a b c=vl s m i + vl t n j:=by refine ⟨_,_,_,R,?_⟩;rw[CV,<-sf s m i (min i j) YP,<-sf t n j (min i j) YP,Rat.intCast_add];grind
theorem Kh(d:Is n u)(f:Is B T)(b: -p2 1023<u + T)(c:u + T<p2 1023):
  ∃r a,o5 .add .f64 n B=S r/\Is r a/\MO a (u + T):=by
 obtain ⟨_,s,m,i,v,rfl⟩:=d;obtain ⟨_,t,g,j,w,rfl⟩:=f;obtain ⟨h,k,l,e,o⟩:=FO s t m g i j;rw[<-o]at b c ⊢;obtain ⟨a,p,q⟩:=kR h k l b c;refine ⟨_,a,?_,p,q⟩;show ((Ieee.double.read n).sum (Ieee.double.read B)).map Ieee.double.write=_;grind
theorem Mn(f:Is n u)(g:Is B T)(c: -p2 1023<u - T)(d:u - T<p2 1023):
  ∃r a,o5 .sub .f64 n B=S r/\Is r a/\MO a (u - T):=by
 obtain ⟨_,s,m,i,h,rfl⟩:=f;obtain ⟨_,t,b,j,k,rfl⟩:=g;obtain ⟨l,o,p,e,q⟩:=FO s (!t) m b i j;have v:vl s m i - vl t b j=vl s m i + vl (!t) b j:=by unfold vl;rw[Fs];grind
 rw[v,<-q]at c d ⊢;obtain ⟨a,w,x⟩:=kR l o p c d;refine ⟨_,a,?_,w,x⟩;show ((Ieee.double.read n).sum (Ieee.double.read B).opposite).map Ieee.double.write=_;rw[h,k];show ((D7 s m i).sum (.number (!t) b j)).map Ieee.double.write=_;rw[e];rfl
theorem IH (s t:Bool)(m n:Nat)(i j:Int):vl (s ^^ t) (m * n) (i + j)=vl s m i * vl t n j:=by unfold vl;rw[<-LZ,dx];grind
theorem Ly(d:Is n u)(e:Is B T)(b: -p2 1023<u * T)(c:u * T<p2 1023):
  ∃r a,o5 .mul .f64 n B=S r/\Is r a/\MO a (u * T):=by
 obtain ⟨_,s,m,i,f,rfl⟩:=d;obtain ⟨_,t,l,j,g,rfl⟩:=e;rw[<-IH]at b c ⊢;obtain ⟨a,h,k⟩:=kR _ _ _ b c;refine ⟨_,a,?_,h,k⟩;show ((Ieee.double.read n).product (Ieee.double.read B)).map Ieee.double.write=_;rw[f,g];rfl
theorem Mk (g:Bool)(q i:Nat)(a:Int)(O:9007199254740992<=q)(P:i<=1)(h:((2 * q + i:Nat):Rat) * p2 a<p2 1023):
  ∃o,Is (Ieee.double.nearest g (2 * q + i) a) (sg g o)/\ ∀z,(q:Rat) * p2 (a + 1)<=z->z<=((q + i:Nat):Rat) * p2 (a + 1)->AF o z:=by
 obtain ⟨o,A,B⟩:=mT g _ a h;refine ⟨o,A,?_⟩;have p:=dI (a + 1);have C:p2 (a + 1)=2 * p2 a:=by rw[dx,show (1:Int)=((1:Nat):Int)from rfl,ef];have:((2 ^ 1:Nat):Rat)=2:=YV;rw[this];grind
 intro z z1 Q;rcases (by omega:i=0\/i=1)with rfl | rfl
 ·grind
 ·obtain ⟨d,b,r,s,t,D,k,u⟩:=B;have T:a + 2<=d:=by
   have w:p2 (a + 54)<p2 (53 + d):=by
    have e:p2 (a + 54)=((2 ^ 54:Nat):Rat) * p2 a:=by rw[dx,show (54:Int)=((54:Nat):Int)from rfl,ef];grind
    have v:((2 ^ 54:Nat):Rat)<((2 * q + 1:Nat):Rat):=by have:2 ^ 54<2 * q + 1:=YP;exact_mod_cast this
    have:=q7 v (dI a);grind
   have:=rS w;omega
  obtain ⟨j,E⟩: ∃j:Nat,d=(a + 1) + ((j + 1:Nat):Int):=⟨(d - a - 2).toNat,YP⟩;have l:p2 d=((2 ^ (j + 1):Nat):Rat) * p2 (a + 1):=by rw[E,dx,ef];grind
  have m:p2 (52 + d)=((2 ^ 52:Nat):Rat) * p2 d:=by rw[dx,show (52:Int)=((52:Nat):Int)from rfl,ef]
  have n:p2 (53 + d)=((2 ^ 53:Nat):Rat) * p2 d:=by rw[dx,show (53:Int)=((53:Nat):Int)from rfl,ef]
  rw[r]at s t;rw[m]at k;rw[n]at u;rw[l]at s t k u;have F:p2 (a + 1)=p2 a * 2:=by rw[C];grind
  have f:=dI a;rw[F]at s t k u;have G:4 * (b * 2 ^ (j + 1))<=2 * (2 * q + 1) + 2 * 2 ^ (j + 1):=by have:((4 * (b * 2 ^ (j + 1)):Nat):Rat)<=((2 * (2 * q + 1) + 2 * 2 ^ (j + 1):Nat):Rat):=fU f YS;exact_mod_cast this
  have H:2 * (2 * q + 1)<=4 * (b * 2 ^ (j + 1)) + 2 * 2 ^ (j + 1):=by have:((2 * (2 * q + 1):Nat):Rat)<=((4 * (b * 2 ^ (j + 1)) + 2 * 2 ^ (j + 1):Nat):Rat):=fU f YS;exact_mod_cast this
  have V:2 * q + 1<=2 * (2 ^ 53 * 2 ^ (j + 1)):=by have:((2 * q + 1:Nat):Rat)<=((2 * (2 ^ 53 * 2 ^ (j + 1)):Nat):Rat):=fU f YS;exact_mod_cast this
  have n4:d= -1074\/2 * (2 ^ 52 * 2 ^ (j + 1))<=2 * q + 1:=by
   rcases k with k | k
   ·omega
   ·right;have:((2 * (2 ^ 52 * 2 ^ (j + 1)):Nat):Rat)<=((2 * q + 1:Nat):Rat):=fU f YS;exact_mod_cast this
  have x:2 ^ (j + 1)=2 * 2 ^ j:=by rw[Nat.pow_succ];omega
  have y:b * 2 ^ (j + 1)=2 * (b * 2 ^ j):=by rw[x];exact Nat.mul_left_comm _ _ _
  have I:2 * (b * 2 ^ (j + 1))<=2 * q + 2 ^ (j + 1):=by rw[y,x]at G ⊢;generalize b * 2 ^ j=K at *;generalize 2 ^ j=J at *;omega
  have L:2 * (q + 1)<=2 * (b * 2 ^ (j + 1)) + 2 ^ (j + 1):=by rw[y,x]at H ⊢;generalize b * 2 ^ j=K at *;generalize 2 ^ j=J at *;omega
  refine ⟨d,b,r,?_,?_,D,?_,?_⟩
  ·rw[r,l];have c:((2 * (b * 2 ^ (j + 1)):Nat):Rat)<=((2 * q + 2 ^ (j + 1):Nat):Rat):=by exact_mod_cast I
   have:=m8 c (r5 p);grind
  ·rw[r,l];have c:((2 * (q + 1):Nat):Rat)<=((2 * (b * 2 ^ (j + 1)) + 2 ^ (j + 1):Nat):Rat):=by exact_mod_cast L
   have:=m8 c (r5 p);grind
  ·rcases n4 with n4 | n4
   ·omega
   ·right;rw[m,l];have M:2 ^ 52 * 2 ^ (j + 1)<=q:=YP;have c:((2 ^ 52 * 2 ^ (j + 1):Nat):Rat)<=((q:Nat):Rat):=by exact_mod_cast M
    have:=m8 c (r5 p);grind
  ·rw[n,l];have N:q + 1<=2 ^ 53 * 2 ^ (j + 1):=YP;have c:((q + 1:Nat):Rat)<=((2 ^ 53 * 2 ^ (j + 1):Nat):Rat):=by exact_mod_cast N
   have:=m8 c (r5 p);grind
theorem vP (k:Int):p2 (k + 1)=2 * p2 k:=by rw[dx,show (1:Int)=((1:Nat):Int)from rfl,ef];grind
theorem QI {a Q b z c:Rat}(f:(2 * u + a) * Q<=4 * u * Q)(d:b=2 * Q)(g:u * b<=z)(h:z<T)(e:c=2 * T):(2 * u + a) * Q<c:=by subst d e;grind
theorem yt (m n a:Nat)(b:m≠0)(e:n≠0)(h:a=54 + n.log2 - m.log2):9007199254740992<=m * 2 ^ a / n:=by have c:=E2 b;have f:n<2 ^ (n.log2 + 1):=E3;rw[Nat.le_div_iff_mul_le YP];have d:2 ^ m.log2 * 2 ^ a<=m * 2 ^ a:=B8 _ c;rw[<-E6]at d;have g:2 ^ (54 + n.log2)<=2 ^ (m.log2 + a):=Nat.pow_le_pow_right YP YP;grind
theorem xt (m n X:Nat)(a:n≠0)(b:X=m):(X / n:Nat) * n<=m/\m<=(X / n + (X % n !=0).toNat) * n:=by
 subst b;have e:=Nat.div_add_mod X n;have c:=I0 X (D1 a);have d:n * (X / n)=(X / n) * n:=YS;constructor
 ·omega
 ·by_cases h:X % n=0
  ·simp[h];omega
  grind
theorem Ae (s:Bool):sg s 0=0:=by cases s<;>simp[sg]
theorem tM (s:Bool)(p:Int):vl s 0 p=0:=by unfold vl;rw[show ((0:Nat):Rat)=0 from rfl,Rat.zero_mul,Ae]
theorem Cx (a b:Rat):0 * a / b=0:=YS
theorem vW(b:0<=u)(a:0<T):0<=u / T:=by have e:u / T * T=u:=YS;apply Rat.not_lt.1;intro h;have:=q7 h a;grind
theorem inv_mul {a b:Rat}(h:b≠0):a / b * b=a:=YS
theorem BW (e:Bool)(m n:Nat)(i j:Int)(C:m≠0)(r:n≠0)(h:(m:Rat) * p2 i / ((n:Rat) * p2 j)<p2 1022):
  ∃s,Is (Ieee.double.nearest e (2 * ((m<<<(54 + n.log2 - m.log2)) / n) + ((m<<<(54 + n.log2 - m.log2)) % n !=0).toNat) (i - j - (54 + n.log2 - m.log2:Nat) - 1)) (sg e s)/\
   AF s ((m:Rat) * p2 i / ((n:Rat) * p2 j)):=by
 obtain ⟨c,d⟩: ∃c,c=54 + n.log2 - m.log2:=⟨_,R⟩;rw[<-d,z3];have D:=yt m n c C r d;have t:=xt (m * 2 ^ c) n _ r R;generalize o:((m * 2 ^ c) % n !=0).toNat=f at *;have g:f<=1:=by rw[<-o];exact Bool.toNat_le _
 generalize m * 2 ^ c / n=q at *;have p:(0:Rat)<n:=by have:0<n:=YP;exact_mod_cast this
 have k:=dI j;have E:=dI i;have u:=Rat.mul_pos p k;have v:=inv_mul (a:=(m:Rat) * p2 i) (b:=(n:Rat) * p2 j) YS;generalize N:(m:Rat) * p2 i / ((n:Rat) * p2 j)=z at *;have w:p2 i=((2 ^ c:Nat):Rat) * p2 (i - c):=by rw[<-ef,<-dx];congr 1;omega
 have x:p2 (i - c)=p2 (i - j - c - 1 + 1) * p2 j:=by rw[<-dx];congr 1;omega
 have F:((q * n:Nat):Rat)<=((m * 2 ^ c:Nat):Rat):=by exact_mod_cast t.1
 have G:((m * 2 ^ c:Nat):Rat)<=(((q + f) * n:Nat):Rat):=by exact_mod_cast t.2
 have H:=dI (i - j - c - 1 + 1);have I:=vP (i - j - c - 1);have O:=Mk e q f (i - j - c - 1) D g;generalize p2 (i - j - c - 1 + 1)=y at *;have l:=Rat.mul_pos H k;have J:=Rat.mul_le_mul_of_nonneg_right F (Rat.le_of_lt l);have K:=Rat.mul_le_mul_of_nonneg_right G (Rat.le_of_lt l);have z1:(q:Rat) * y<=z:=fU u (by rw[v,w,x];push_cast at J ⊢;grind);have P:z<=((q + f:Nat):Rat) * y:=fU u (by rw[v,w,x];push_cast at K ⊢;grind);have L:((2 * q + f:Nat):Rat) * p2 (i - j - c - 1)<p2 1023:=by
  have A:=vP 1022;have M:((2 * q + f:Nat):Rat)<=((4 * q:Nat):Rat):=by have:2 * q + f<=4 * q:=YP;exact_mod_cast this
  have B:=Rat.mul_le_mul_of_nonneg_right M (Rat.le_of_lt (dI (i - j - c - 1)));rw[show (1022:Int) + 1=1023 from rfl]at A;push_cast at B ⊢
  exact QI B I z1 h A
 grind
theorem KC(y:Is n u)(A:Is B T)(C:T≠0)(d: -p2 1022<u / T)(e:u / T<p2 1022):
  ∃r c,o5 .quo .f64 n B=S r/\Is r c/\MO c (u / T):=by
 obtain ⟨_,s,m,i,E,rfl⟩:=y;obtain ⟨_,t,a,j,F,rfl⟩:=A;have f:a≠0:=by intro h;subst h;apply C;unfold vl sg;cases t<;>simp
 have g:(0:Rat)<a:=by have:0<a:=YP;exact_mod_cast this
 have G:=Rat.mul_pos g (dI j);have H:vl s m i / vl t a j=sg (s ^^ t) ((m:Rat) * p2 i / ((a:Rat) * p2 j)):=by unfold vl;generalize (a:Rat) * p2 j=D at *;generalize (m:Rat) * p2 i=M;cases s<;>cases t<;>simp[sg]<;>grind
 have k:=vW (qA m i) G;rw[H]at d e ⊢;have I:(m:Rat) * p2 i / ((a:Rat) * p2 j)<p2 1022:=by unfold sg at d e;generalize (m:Rat) * p2 i / ((a:Rat) * p2 j)=z at *;cases l:(s ^^ t)<;>simp[l]at d e<;>grind
 have q:o5 .quo .f64 n B=(r7 54 (.number s m i) (.number t a j)).map Ieee.double.write:=by show ((Ieee.double.read n).quotient 54 (Ieee.double.read B)).map Ieee.double.write=_;rw[E,F]
 by_cases v:m=0
 ·subst v;have o:r7 54 (.number s 0 i) (.number t a j)=S (.number (s ^^ t) 0 (i - j - (54 + a.log2 - Nat.log2 0:Nat) - 1)):=by unfold r7;simp[f]
  rw[q,o];have J:=Cx (p2 i) ((a:Rat) * p2 j);rw[show (((0:Nat):Rat) * p2 i / ((a:Rat) * p2 j))=0 from J];have w:=dI 1023;have b:=Rat.neg_lt_neg w;rw[Rat.neg_zero]at b;obtain ⟨c,x,p⟩:=kR (s ^^ t) 0 (i - j - (54 + a.log2 - Nat.log2 0:Nat) - 1) (by rw[tM];exact b) (by rw[tM];exact w);rw[tM]at p;rw[Ae];grind
 ·obtain ⟨c,x,p⟩:=BW (s ^^ t) m a i j v f I;have o:r7 54 (.number s m i) (.number t a j)=S (.number (s ^^ t) (2 * ((m<<<(54 + a.log2 - m.log2)) / a) + ((m<<<(54 + a.log2 - m.log2)) % a !=0).toNat) (i - j - (54 + a.log2 - m.log2:Nat) - 1)):=by unfold r7;simp only[f,if_false]
  rw[q,o];refine ⟨_,_,R,x,?_⟩;unfold sg;cases (s ^^ t)
  ·exact H8 ⟨k,p⟩
  ·refine H9 ⟨by simp only[if_true];grind,?_⟩;grind
def Ex (z:Rat):Prop:= ∃ (k:Int)(q:Int), -9007199254740992<k/\k<9007199254740992/\ -1074<=q/\z=k * p2 q
theorem xZ(h:0<=l):(l:Rat)=((l.natAbs:Nat):Rat):=by
 have:((l.natAbs:Nat):Int)=l:=YP;have a:(((l.natAbs:Nat):Int):Rat)=(l:Rat):=by rw[this]
 rw[q5]at a;grind
theorem Io(h:l<=0):(l:Rat)= -((l.natAbs:Nat):Rat):=by
 have:((l.natAbs:Nat):Int)= -l:=YP;have a:(((l.natAbs:Nat):Int):Rat)=((-l:Int):Rat):=by rw[this]
 rw[q5,x7]at a;grind
theorem jE(h:MO u T)(f:Ex T):u=T:=by
 obtain ⟨k,q,i,j,d,rfl⟩:=f;have l:=dI q;rcases Int.le_total 0 k with b | b
 ·rw[xZ b]at h ⊢;have g:=qA k.natAbs q;rcases h with ⟨_,a⟩ | ⟨c,a⟩
  ·exact jL a k.natAbs q YP d R
  ·have e:((k.natAbs:Nat):Rat) * p2 q=0:=by grind
   rw[e]at a ⊢;have:=jL a 0 0 YP YP YR;grind
 ·rw[Io b]at h ⊢;have g:=qA k.natAbs q;have em: -((k.natAbs:Nat):Rat) * p2 q= -(((k.natAbs:Nat):Rat) * p2 q):=YS;rw[em]at h ⊢;rcases h with ⟨c,a⟩ | ⟨_,a⟩
  ·have e: -(((k.natAbs:Nat):Rat) * p2 q)=0:=by grind
   rw[e]at a ⊢;have:=jL a 0 0 YP YP YR;grind
  ·have:=jL a k.natAbs q YP d YS;grind
theorem zH(h:Is n u): ∃s r V,n=Ieee.double.word s r/\r<9218868437227405312/\u=sg s V/\0<=V/\ ∀t,Is (Ieee.double.word t r) (sg t V):=by
 obtain ⟨f,s,m,p,e,rfl⟩:=h;have c:n=Ieee.double.word (decide (9223372036854775808<=n)) (n % 9223372036854775808):=by
  rw[ir];by_cases h:9223372036854775808<=n
  ·rw[if_pos (by simp[h])];omega
  ·rw[if_neg (by simp[h])];omega
 have a:n % 9223372036854775808<9218868437227405312:=by
  apply Nat.lt_of_not_le;intro g;have b:Ieee.double.read n=if n % 9223372036854775808=9218868437227405312 then .infinity (n / 9223372036854775808 % 2==1)else .nan (n / 9223372036854775808 % 2==1) (n % 9223372036854775808 - 9218868437227405312):=by show (if n % 9223372036854775808<4503599627370496 then _ else if n % 9223372036854775808<9218868437227405312 then _ else if n % 9223372036854775808=9218868437227405312 then _ else _)=_;rw[if_neg YP,if_neg YP];rfl
  rw[e]at b;split at b<;>cases b
 have key: ∃M P,∀t,Ieee.double.read (Ieee.double.word t (n % 9223372036854775808))= .number t M P:=by
  by_cases h:n % 9223372036854775808<4503599627370496
  ·exact ⟨_,_,λt=>by rw[nO t _ a,if_pos h]⟩
  ·exact ⟨_,_,λt=>by rw[nO t _ a,if_neg h]⟩
 obtain ⟨M,P,d⟩:=key;rw[c,d]at e;cases e;refine ⟨_,_,(m:Rat) * p2 p,c,a,R,qA m p,λt=>⟨?_,t,m,p,d t,R⟩⟩;rw[ir];grind
theorem Ew (s:Bool)(r:Nat)(h:r<9223372036854775808):r9 .f64 (Ieee.double.word s r)=Ieee.double.word (!s) r:=by
 rw[ir,ir];show _ ^^^ 2 ^ 63=_;have d:(0 + r) ^^^ 2 ^ 63=9223372036854775808 + r:=by
  have c:r + 2 ^ 63=r ^^^ 2 ^ 63:=by
   have:=Nat.two_pow_add_eq_or_of_lt (i:=63) (b:=r) h 1;rw[E5]at this;rw[Nat.add_comm,this];apply Nat.eq_of_testBit_eq;intro i;rw[Nat.testBit_or,Nat.testBit_xor,Nat.testBit_two_pow];by_cases a:63=i
   ·subst a;have:r.testBit 63=false:=YS;simp[this]
   ·simp[a]
  rw[z8,<-c];omega
 grind
theorem LA(h:Is n u):Is (r9 .f64 n) (-u):=by obtain ⟨s,r,V,rfl,b,rfl,_,a⟩:=zH h;rw[Ew _ _ YP,<-Fs];grind
theorem EB (n:Int)(a: -9007199254740992<n)(b:n<9007199254740992):Is (floatOfInt .f64 n) (n:Rat):=by
 have g:vl (decide (n<0)) n.natAbs 0=(n:Rat):=by
  have:=CV (decide (n<0)) n 0;rw[oO,E7]at this;rw[<-this];by_cases h:n=0
  ·simp
  ·simp
 have i:(n:Rat) * p2 0=n:=by rw[oO,E7]
 have c:p2 53<=p2 1023:=mW YP;rw[show (53:Int)=((53:Nat):Int)from rfl,ef]at c;have e:((2 ^ 53:Nat):Rat)=((9007199254740992:Int):Rat):=YV;rw[e]at c;have j:=B2.2 a;have k:=B2.2 b;rw[x7]at j;obtain ⟨l,d,f⟩:=kR (decide (n<0)) n.natAbs 0 YS YS;rw[g]at f;have:=jE f ⟨n,0,a,b,YP,i.symm⟩;rw[this]at d;exact d
def Sm (z:Rat):Prop:= -p2 1000<z/\z<p2 1000
theorem mV:p2 1000<=p2 1022:=mW YP
theorem eW:p2 1000<=p2 1023:=mW YP
theorem zN {c:Rat}(h:u<T)(k:T<=c):u<c:=YS
theorem la {c:Rat}(h: -T<u)(k:T<=c): -c<u:=YS
theorem Qu{z:Rat}(b:Is n u)(c:Is B T)(d:z=u + T)(e:Ex z)(a:Sm z): ∃r,o5 .add .f64 n B=S r/\Is r z:=by subst d;obtain ⟨r,h,i,f,g⟩:=Kh b c (la a.1 eW) (zN a.2 eW);rw[jE g e]at f;grind
theorem QV{z:Rat}(b:Is n u)(c:Is B T)(d:z=u - T)(e:Ex z)(a:Sm z): ∃r,o5 .sub .f64 n B=S r/\Is r z:=by subst d;obtain ⟨r,h,i,f,g⟩:=Mn b c (la a.1 eW) (zN a.2 eW);rw[jE g e]at f;grind
theorem QK{z:Rat}(b:Is n u)(c:Is B T)(d:z=u * T)(e:Ex z)(a:Sm z): ∃r,o5 .mul .f64 n B=S r/\Is r z:=by subst d;obtain ⟨r,h,i,f,g⟩:=Ly b c (la a.1 eW) (zN a.2 eW);rw[jE g e]at f;grind
theorem Oi{z:Rat}(c:Is n u)(d:Is B T)(f:T≠0)(g:z * T=u)(h:Ex z)(a:Sm z): ∃r,o5 .quo .f64 n B=S r/\Is r z:=by
 have e:u / T=z:=by subst g;grind
 obtain ⟨r,j,k,i,b⟩:=KC c d f (by rw[e];exact la a.1 mV) (by rw[e];exact zN a.2 mV);rw[e]at b;rw[jE b h]at i;grind
theorem mK (n:Int)(e:Int)(a: -9007199254740992<n)(b:n<9007199254740992)(c: -1074<=e):Ex (n * p2 e):=⟨n,e,a,b,c,R⟩
theorem SV:((9007199254740992:Int):Rat)<=p2 1000:=by have a:p2 53<=p2 1000:=mW YP;rw[show (53:Int)=((53:Nat):Int)from rfl,ef]at a;exact a
theorem nh (n:Int)(e:Int)(c: -9007199254740992<n)(d:n<9007199254740992)(f:e<=0):Sm (n * p2 e):=by
 have j:=SV;have a:=Rat.intCast_lt_intCast.2 c;have g:=Rat.intCast_lt_intCast.2 d;rw[Rat.intCast_neg]at a;have h:p2 e<=1:=by rw[<-oO];exact mW f
 have b:=dI e;have k:=Rat.mul_lt_mul_of_pos_right a b;have l:=Rat.mul_lt_mul_of_pos_right g b;have i:(0:Rat)<=((9007199254740992:Int):Rat):=YQ;have m:=Rat.mul_le_mul_of_nonneg_left h i;generalize ((9007199254740992:Int):Rat)=M at *;exact ⟨YS,YS⟩
theorem SG:((4503599627370496:Nat):Rat)=p2 52:=by rfl
theorem Ei (e:Nat)(h:e<=900):Is ((e + 1023) * 4503599627370496) (p2 e):=by
 have a:=sY false (e + 1022) 4503599627370496 YP YP (H9 YP);have b:min ((e + 1022) * 4503599627370496 + 4503599627370496) 9218868437227405312=(e + 1023) * 4503599627370496:=YP;have c:Ieee.double.word false ((e + 1023) * 4503599627370496)=(e + 1023) * 4503599627370496:=by rw[ir];simp
 have d:52 + ((((e + 1022:Nat)):Int) - 1074)=e:=YP;have f:((4503599627370496:Nat):Rat) * p2 (((e + 1022:Nat):Int) - 1074)=p2 e:=by rw[SG,<-dx,d]
 rw[b,c,f]at a;exact a
theorem Di(h:Is n u):cls n<3:=by
 obtain ⟨s,r,V,rfl,b,_⟩:=zH h;have e:rg (Ieee.double.word s r)=r:=by unfold rg;rw[ir];cases s<;>simp<;>omega
 have a:=JL (Ieee.double.word s r);rw[e]at a;have c:=JC (Ieee.double.word s r);unfold cls;omega
def val (r:Nat):Nat:=if r<4503599627370496 then r else (4503599627370496 + r % 4503599627370496) * 2 ^ (r / 4503599627370496 - 1)
theorem val_succ (r:Nat):val r<val (r + 1):=by
 unfold val;by_cases c:r + 1<4503599627370496
 ·grind
 ·by_cases d:r<4503599627370496
  ·grind
  ·rw[if_neg d,if_neg c];have e:r=4503599627370496 * (r / 4503599627370496) + r % 4503599627370496:=YP;generalize h:r / 4503599627370496=q at *;generalize i:r % 4503599627370496=f at *;have g:f<4503599627370496:=YP;obtain ⟨p,rfl⟩: ∃p,q=p + 1:=⟨q - 1,YP⟩;by_cases j:f + 1<4503599627370496
   ·have a:(r + 1) / 4503599627370496=p + 1:=by omega
    have b:(r + 1) % 4503599627370496=f + 1:=YP;rw[a,b];grind
   ·have a:(r + 1) / 4503599627370496=p + 1 + 1:=by omega
    have b:(r + 1) % 4503599627370496=0:=YP;rw[a,b,D2,D2,Nat.pow_succ];grind
theorem tK(h:n<s):val n<val s:=by
 induction s with
 | zero=>omega
 | succ s a=>
  by_cases b:n=s
  ·subst b;exact val_succ n
  ·exact Nat.lt_trans (a YP) (val_succ s)
theorem jT (r s:Nat):val r<val s↔r<s:=by
 constructor
 ·intro h;apply Nat.lt_of_not_le;intro a;rcases Nat.lt_or_eq_of_le a with g | g
  ·have:=tK g;omega
  grind
 ·exact tK
theorem yV (r s:Nat):val r=val s↔r=s:=by
 constructor
 ·intro h;rcases Nat.lt_trichotomy r s with g | g | g
  ·have:=tK g;omega
  ·exact g
  ·have:=tK g;omega
 grind
theorem val_zero:val 0=0:=YQ
def key (b:Nat):Int:=if ng b then -(rg b:Int)else (rg b:Int)
def cT (b:Nat):Bool:=decide (9218868437227405312<rg b)
def np (s:Bool)(n:Int):Int:=if s then -n else n
theorem GX (a b c:Int)(d:0<c):compare (a * c) (b * c)=compare a b:=by simp only[compare,compareOfLessAndEq];have e:(a * c<b * c)↔a<b:=⟨λh=>Int.lt_of_mul_lt_mul_right h YP,λh=>Int.mul_lt_mul_of_pos_right h d⟩;have f:(a * c=b * c)↔a=b:=⟨λh=>Int.eq_of_mul_eq_mul_right YP h,λh=>by rw[h]⟩;grind
theorem se (s:Bool)(m i:Nat):A6 s m i=np s ((m * 2 ^ i:Nat):Int):=by unfold A6 np;rw[z3]
theorem qV (s t:Bool)(m n i j:Nat)(l:Int):
  (D7 s m (l + i)).order (.number t n (l + j))=S (compare (np s ((m * 2 ^ i:Nat):Int)) (np t ((n * 2 ^ j:Nat):Int))):=by
 simp only[z4];have a:(l + (i:Int) - min (l + (i:Int)) (l + (j:Int))).toNat=i - min i j:=YP;have b:(l + (j:Int) - min (l + (i:Int)) (l + (j:Int))).toNat=j - min i j:=YP;rw[a,b,se,se];have c:(0:Int)<((2 ^ min i j:Nat):Int):=by have:=E8 (min i j);omega
 have d:np s ((m * 2 ^ i:Nat):Int)=np s ((m * 2 ^ (i - min i j):Nat):Int) * ((2 ^ min i j:Nat):Int):=by
  have:m * 2 ^ i=m * 2 ^ (i - min i j) * 2 ^ min i j:=by rw[F9,<-E6,show i - min i j + min i j=i by omega]
  unfold np;split<;>rw[this,E9]<;>simp[G8]
 have e:np t ((n * 2 ^ j:Nat):Int)=np t ((n * 2 ^ (j - min i j):Nat):Int) * ((2 ^ min i j:Nat):Int):=by
  have:n * 2 ^ j=n * 2 ^ (j - min i j) * 2 ^ min i j:=by rw[F9,<-E6,show j - min i j + min i j=j by omega]
  unfold np;split<;>rw[this,E9]<;>simp[G8]
 rw[d,e,GX _ _ _ c]
theorem qa (b:Nat)(a:b<18446744073709551616):(b / 9223372036854775808 % 2==1)=ng b:=by unfold ng;grind
theorem nN (b:Nat):FloatKind.f64.format.read b=
  (if rg b<4503599627370496 then .number (b / 9223372036854775808 % 2==1) (rg b) (-1074)
  else if rg b<9218868437227405312 then .number (b / 9223372036854775808 % 2==1) (4503599627370496 + rg b % 4503599627370496) (-1074 + ((rg b / 4503599627370496 - 1:Nat):Int))
  else if rg b=9218868437227405312 then .infinity (b / 9223372036854775808 % 2==1)else .nan (b / 9223372036854775808 % 2==1) (rg b - 9218868437227405312)):=rfl
theorem kI (b:Nat)(c:b<18446744073709551616)(h:rg b<9218868437227405312):
  ∃m i:Nat,FloatKind.f64.format.read b= .number (ng b) m (-1074 + (i:Int))/\m * 2 ^ i=val (rg b):=by
 rw[nN,qa b c];by_cases a:rg b<4503599627370496
 ·exact ⟨rg b,0,YS,by simp[val,a]⟩
 ·exact ⟨_,_,by rw[if_neg a,if_pos h],by simp[val,a]⟩
theorem ji (b:Nat)(a:b<18446744073709551616)(h:rg b=9218868437227405312):
  FloatKind.f64.format.read b= .infinity (ng b):=by
 rw[nN,qa b a,if_neg YP,if_neg YP,if_pos h]
theorem ql (b:Nat)(a:b<18446744073709551616)(h:9218868437227405312<rg b):
  FloatKind.f64.format.read b= .nan (ng b) (rg b - 9218868437227405312):=by
 rw[nN,qa b a,if_neg YP,if_neg YP,if_neg YP]
theorem GY (s t:Bool)(r u:Nat):compare (np s (val r)) (np t (val u))=compare (np s r) (np t u):=by
 have d:=jT r u;have e:=jT u r;have f:=yV r u;have z1:=jT 0 r;have c:=jT 0 u;rw[val_zero]at z1 c;simp only[compare,compareOfLessAndEq];cases s<;>cases t<;>simp only[np,p6,if_true,if_false]
 ·have a:((val r:Int)<(val u:Int))↔((r:Int)<(u:Int)):=by omega
  have b:((val r:Int)=(val u:Int))↔((r:Int)=(u:Int)):=YP;simp only[a,b]
 ·have a:((val r:Int)< -(val u:Int))↔((r:Int)< -(u:Int)):=by omega
  have b:((val r:Int)= -(val u:Int))↔((r:Int)= -(u:Int)):=YP;simp only[a,b]
 ·have a:(-(val r:Int)<(val u:Int))↔(-(r:Int)<(u:Int)):=by omega
  have b:(-(val r:Int)=(val u:Int))↔(-(r:Int)=(u:Int)):=YP;simp only[a,b]
 grind
theorem zI (b:Nat):key b=np (ng b) (rg b):=rfl
theorem yp (a b:Nat)(f:a<18446744073709551616)(c:b<18446744073709551616):
  FloatKind.f64.format.order a b=if cT a || cT b then none else some (compare (key a) (key b)):=by
 unfold I5;by_cases g:9218868437227405312<rg a
 ·rw[ql a f g];simp[cT,g,z4]
 by_cases h:9218868437227405312<rg b
 ·rw[ql b c h];simp only[cT,g,h,decide_true,Bool.or_true,if_true];cases FloatKind.f64.format.read a<;>rfl
 have l:(cT a || cT b)=false:=by simp[cT];omega
 rw[l,zI,zI];simp only[p6,if_false];by_cases k:rg a=9218868437227405312
 ·rw[ji a f k];by_cases d:rg b=9218868437227405312
  ·rw[ji b c d,k,d];cases ng a<;>cases ng b<;>decide
  ·obtain ⟨m,i,e,_⟩:=kI b c YP;rw[e];simp only[z4];cases ng a
   ·have:compare (np false (rg a:Int)) (np (ng b) (rg b))= .gt:=by simp only[compare,compareOfLessAndEq,np];cases ng b<;>simp only[p6,if_true,if_false]<;>rw[if_neg YP,if_neg YP]
    grind
   ·have:compare (np true (rg a:Int)) (np (ng b) (rg b))= .lt:=by simp only[compare,compareOfLessAndEq,np];cases ng b<;>simp only[p6,if_true,if_false]<;>rw[if_pos YP]
    grind
 ·obtain ⟨m,i,e,v⟩:=kI a f YP;rw[e];by_cases d:rg b=9218868437227405312
  ·rw[ji b c d];simp only[z4];cases ng b
   ·have:compare (np (ng a) (rg a:Int)) (np false (rg b))= .lt:=by simp only[compare,compareOfLessAndEq,np];cases ng a<;>simp only[p6,if_true,if_false]<;>rw[if_pos YP]
    grind
   ·have:compare (np (ng a) (rg a:Int)) (np true (rg b))= .gt:=by simp only[compare,compareOfLessAndEq,np];cases ng a<;>simp only[p6,if_true,if_false]<;>rw[if_neg YP,if_neg YP]
    grind
  ·obtain ⟨n,j,o,p⟩:=kI b c YP;rw[o,qV,v,p,GY]
theorem EG (a b:Nat)(c:a<18446744073709551616)(d:b<18446744073709551616):
  (FloatKind.f64.format.order a b==S .eq)=(!cT a && !cT b && decide (key a=key b)):=by
 rw[yp a b c d];grind
def lf (b:Nat):Option Nat:=if cT b then none else S b
def uc (c:D8)(x y:Option Nat):Option Nat:=x.bind λa=>y.bind λb=>o5 c .f64 a b
theorem wz (d e:F7): ∀f,d.sum e=S f->f.isNaN=false:=by
 intro f h;cases d<;>cases e<;>simp only[F6]at h
 all_goals first
  | (cases h;done)
  | (split at h<;>cases h<;>rfl)
  | (cases h;rfl)
theorem tt (d e:F7): ∀f,d.product e=S f->f.isNaN=false:=by
 intro f h;cases d<;>cases e<;>simp only[I1]at h
 all_goals first
  | (cases h;done)
  | (split at h<;>cases h<;>rfl)
  | (cases h;rfl)
theorem tv (s:Bool)(r:Nat)(h:r<9223372036854775808):rg (Ieee.double.word s r)=r:=by unfold rg;rw[ir];grind
theorem mf (d:F7)(h:d.isNaN=false):cT (Ieee.double.write d)=false:=by
 cases d with
 | number s m p=>
  show cT (Ieee.double.nearest s m p)=false;unfold cT H0;split
  ·rw[tv _ _ YP];simp
  ·dsimp only;have a:Ieee.double.infRung=9218868437227405312:=YQ;rw[a,tv _ _ YP];simp;omega
 | infinity s=>show cT (Ieee.double.word s Ieee.double.infRung)=false;have a:Ieee.double.infRung=9218868437227405312:=YQ;unfold cT;rw[a,tv _ _ YP];simp
 | nan s f=>cases h
theorem rp (b:D8)(c:b= .add\/b= .sub\/b= .mul)(x y r:Nat)(h:o5 b .f64 x y=S r):cT r=false:=by
 rcases c with rfl | rfl | rfl
 ·obtain ⟨d,a,rfl⟩:=y6.1 (show ((Ieee.double.read x).sum (Ieee.double.read y)).map Ieee.double.write=S r from h);exact mf d (wz _ _ d a)
 ·obtain ⟨d,a,rfl⟩:=y6.1 (show ((Ieee.double.read x).sum (Ieee.double.read y).opposite).map Ieee.double.write=S r from h);exact mf d (wz _ _ d a)
 ·obtain ⟨d,a,rfl⟩:=y6.1 (show ((Ieee.double.read x).product (Ieee.double.read y)).map Ieee.double.write=S r from h);exact mf d (tt _ _ d a)
theorem qk (b:Nat)(a:b<18446744073709551616)(h:cT b=true): ∃s f,Ieee.double.read b= .nan s f:=by simp only[cT,decide_eq_true_eq]at h;exact ⟨_,_,ql b a h⟩
theorem uC (b:D8)(a:b= .add\/b= .sub\/b= .mul)(x y:Nat)(c:x<18446744073709551616)(d:y<18446744073709551616)(h:cT x=true\/cT y=true):o5 b .f64 x y=none:=by
 rcases h with h | h
 ·obtain ⟨s,f,e⟩:=qk x c h;rcases a with rfl | rfl | rfl
  ·show ((Ieee.double.read x).sum (Ieee.double.read y)).map Ieee.double.write=none;rw[e];rfl
  ·show ((Ieee.double.read x).sum (Ieee.double.read y).opposite).map Ieee.double.write=none;rw[e];rfl
  ·show ((Ieee.double.read x).product (Ieee.double.read y)).map Ieee.double.write=none;rw[e];rfl
 ·obtain ⟨s,f,e⟩:=qk y d h;rcases a with rfl | rfl | rfl
  ·show ((Ieee.double.read x).sum (Ieee.double.read y)).map Ieee.double.write=none;rw[e];cases Ieee.double.read x<;>rfl
  ·show ((Ieee.double.read x).sum (Ieee.double.read y).opposite).map Ieee.double.write=none;rw[e];cases Ieee.double.read x<;>rfl
  ·show ((Ieee.double.read x).product (Ieee.double.read y)).map Ieee.double.write=none;rw[e];cases Ieee.double.read x<;>rfl
theorem vd (a:D8)(b:a= .add\/a= .sub\/a= .mul)(x y:Nat)(c:x<18446744073709551616)(d:y<18446744073709551616):o5 a .f64 x y=uc a (lf x) (lf y):=by
 unfold uc lf;cases e:cT x
 ·cases f:cT y
  ·rfl
  ·rw[uC a b x y c d (H9 f)];rfl
 ·rw[uC a b x y c d (H8 e)];rfl
theorem na (b:Nat)(w:World):(callFunc 73 #[.float .f64 b]).run Try.prog w= .ok (.value (.int .u64 b)) w:=by rw[C5 Try.func73 Zh Zh Zh (e:=D9) Zh];rfl
theorem ig (n:Int)(w:World):(callFunc 22 #[.int .u64 n]).run Try.prog w= .ok (.value (.float .f64 n.toNat)) w:=by rw[C5 Try.func22 Zh Zh Zh (e:=C6) Zh];rfl
theorem Ff (b:Nat)(w:World):(convert 36 36 (.float .f64 b)).run Try.prog w= .ok (.float .f64 b) w:=
 run_convert_float_float w _ _ .f64 .f64 b b YV Try.underlying36 R
theorem vD (a b c d p q r s f g:Nat)(h i j k l m n:World)
  (t:(A8 .mul 36 (.float .f64 a) (.float .f64 c)).run Try.prog h= .ok (.float .f64 p) i)
  (u:(A8 .mul 36 (.float .f64 b) (.float .f64 d)).run Try.prog i= .ok (.float .f64 q) j)
  (v:(A8 .sub 36 (.float .f64 p) (.float .f64 q)).run Try.prog j= .ok (.float .f64 f) k)
  (w:(A8 .mul 36 (.float .f64 a) (.float .f64 d)).run Try.prog k= .ok (.float .f64 r) l)
  (x:(A8 .mul 36 (.float .f64 b) (.float .f64 c)).run Try.prog l= .ok (.float .f64 s) m)
  (y:(A8 .add 36 (.float .f64 r) (.float .f64 s)).run Try.prog m= .ok (.float .f64 g) n):
  n9 Try.prog 43 #[G1 J0 a b,G1 J0 c d] h λe o=>e= .returned (G1 J0 f g)/\o=n:=by
 have z:=Ff;go_enter Try.func43,Try.ntmps43
 go_wp2
 go_ret
 simp
theorem FQ (b:Nat)(a:b<18446744073709551616)(w:World):
  n9 Try.prog 93 #[.float .f64 b] w λe g=>e= .returned (.tuple #[.bool (ng b),J1 J2 (pw b),.int .u64 (fr b)])/\g=w:=by
 have c:=uz b a;have d:=AJ b a;have f:=sI b a;have h:=au (And.intro c (And.intro d f));clear c d f a;have i:=na;go_enter Try.func93,Try.ntmps93
 go_wp2
 go_ret3
 obtain ⟨c,d,f⟩:=ae h;simp_all
theorem QA (b:Nat)(a:((pw b:Int)==0)=true)(c:((fr b:Int)==0)=true):cls b=0:=by simp at a c;simp[cls,a,c]
theorem QB (b:Nat)(a:((pw b:Int)==0)=true)(c:((fr b:Int)==0)=false):cls b=1:=by simp at a c;simp[cls,a,c]
theorem QC (b:Nat)(a:((pw b:Int)==0)=false)(c:(pw b:Int)<2047):cls b=2:=by simp at a;simp[cls,a];omega
theorem QD (b:Nat)(a:((pw b:Int)==0)=false)(d: ¬ (pw b:Int)<2047)(c:((fr b:Int)==0)=true):cls b=3:=by simp at a c;simp[cls,a,c];omega
theorem QE (b:Nat)(a:((pw b:Int)==0)=false)(d: ¬ (pw b:Int)<2047)(c:((fr b:Int)==0)=false):cls b=4:=by simp at a c;simp[cls,a,c];omega
theorem td (b:Nat)(i:b<18446744073709551616)(w:World):
  n9 Try.prog 90 #[.float .f64 b] w λe c=>e= .returned (J1 J2 (cls b))/\c=w:=by
 have j:=FQ b i;have d:=au j;clear j i;cases f:((pw b:Int)==0)
 ·by_cases h:(pw b:Int)<2047
  ·have a:=au (QC b f h);go_enter Try.func90,Try.ntmps90
   go_wp2_with fail
   refine (ae d _).mono ?_;rintro e c ⟨rfl,rfl⟩;go_wp2
   go_ret
   rw[ae a];simp
  ·cases g:((fr b:Int)==0)
   ·have a:=au (QE b f h g);go_enter Try.func90,Try.ntmps90
    go_wp2_with fail
    refine (ae d _).mono ?_;rintro e c ⟨rfl,rfl⟩;go_wp2
    go_ret
    rw[ae a];simp
   ·have a:=au (QD b f h g);go_enter Try.func90,Try.ntmps90
    go_wp2_with fail
    refine (ae d _).mono ?_;rintro e c ⟨rfl,rfl⟩;go_wp2
    go_ret
    rw[ae a];simp
 ·cases g:((fr b:Int)==0)
  ·have a:=au (QB b f g);go_enter Try.func90,Try.ntmps90
   go_wp2_with fail
   refine (ae d _).mono ?_;rintro e c ⟨rfl,rfl⟩;go_wp2
   go_ret
   rw[ae a];simp
  ·have a:=au (QA b f g);go_enter Try.func90,Try.ntmps90
   go_wp2_with fail
   refine (ae d _).mono ?_;rintro e c ⟨rfl,rfl⟩;go_wp2
   go_ret
   rw[ae a];simp
theorem Ha (a b:Nat)(d:a<18446744073709551616)(f:b<18446744073709551616)(w:World):
  n9 Try.prog 85 #[G1 J0 a b] w λe c=>e= .returned (J1 J2 (max (cls a) (cls b)))/\c=w:=by
 have g:=au (td a d);have h:=au (td b f);clear d f;go_enter Try.func85,Try.ntmps85
 go_wp2_with fail
 refine (ae g _).mono ?_;rintro e c ⟨rfl,rfl⟩;go_wp2_with fail
 refine (ae h _).mono ?_;rintro e c ⟨rfl,rfl⟩;go_wp2
 all_goals go_ret
 all_goals refine ⟨?_,R⟩
 ·rw[Int.max_eq_right YP];rfl
 ·rw[Int.max_eq_left YP];rfl
theorem gR {a:D8}(h:o5 a .f64 n B=S L)(w:World):(A8 a 36 (.float .f64 n) (.float .f64 B)).run Try.prog w= .ok (.float .f64 L) w:=
 F0 w a _ .f64 n B L h
theorem pJ (a b:Nat)(c:a<18446744073709551616)(d:b<18446744073709551616)(w:World):
  n9 Try.prog 72 #[G1 J0 a b] w λe f=>e= .returned (.bool (decide (max (cls a) (cls b)<3)))/\f=w:=by
 have g:=au (Ha a b c d);clear c d;go_enter Try.func72,Try.ntmps72
 go_wp2_with fail
 refine (ae g _).mono ?_;rintro e f ⟨rfl,rfl⟩;go_wp2
 go_ret
 simp
theorem pK (a b:Nat)(c:a<18446744073709551616)(d:b<18446744073709551616)(h:max (cls a) (cls b)<3)(w:World):
  n9 Try.prog 72 #[G1 J0 a b] w λe f=>e= .returned (.bool true)/\f=w:=by
 have:=pJ a b c d w;grind
def Still (w a:World):Prop:= ∀B,Below B w a
theorem Still.refl (w:World):Still w w:=λB=>o3 B w
theorem Still.trans {a b c:World}(h:Still a b)(k:Still b c):Still a c:=λB=>(h B).trans (k B)
theorem dJ (w:World):Still w w.drew:=λB=>(o3 B w).drew
theorem zt (x y t:Nat):cT ((w9 .f64 x y).cut t)=true/\(w9 .f64 x y).cut t<18446744073709551616:=by
 have e:(w9 .f64 x y).cut t=(t % 2) * 2 ^ 63 + 0x7ff0000000000000 + 1 + (t / 2) % (2 ^ 52 - 1):=rfl;rw[e];have h:=I0 (t / 2) (show 0<2 ^ 52 - 1 by decide);generalize (t / 2) % (2 ^ 52 - 1)=q at *;unfold cT rg;constructor
 ·rw[decide_eq_true_eq];omega
 ·omega
theorem nK (a:D8)(b:a= .add\/a= .sub\/a= .mul)(x y:Nat)(e:x<18446744073709551616)(f:y<18446744073709551616)(w:World):
  ∃r d,(A8 a 36 (.float .f64 x) (.float .f64 y)).run Try.prog w= .ok (.float .f64 r) d/\r<18446744073709551616/\lf r=uc a (lf x) (lf y)/\Still w d:=by
 rw[<-vd a b x y e f];cases h:floatBits a .f64 x y with
 | some r=>refine ⟨r,w,F0 w a _ .f64 x y r h,zo r (floatBits_wf h),?_,Still.refl w⟩;unfold lf;rw[rp a b x y r h];rfl
 | none=>
  have g:=zt x y (w.tape w.drawn (.nanBits .f64 x y));refine ⟨(w9 .f64 x y).cut (w.tape w.drawn (.nanBits .f64 x y)),w.drew,?_,g.2,?_,dJ w⟩
  ·rcases b with rfl | rfl | rfl
   ·have c:FloatKind.f64.format.add x y=none:=h;simp[A8,z7,c,x8]
   ·have c:FloatKind.f64.format.sub x y=none:=h;simp[A8,z7,c,x8]
   ·have c:FloatKind.f64.format.mul x y=none:=h;simp[A8,z7,c,x8]
  ·unfold lf;simp_all
def JH (a b c d:Nat):Option Nat:=uc .sub (uc .mul (lf a) (lf c)) (uc .mul (lf b) (lf d))
def JF (a b c d:Nat):Option Nat:=uc .add (uc .mul (lf a) (lf d)) (uc .mul (lf b) (lf c))
theorem Lz (a b c d:Nat)(h:a<18446744073709551616)(i:b<18446744073709551616)(j:c<18446744073709551616)(k:d<18446744073709551616)(w:World):
  n9 Try.prog 43 #[G1 J0 a b,G1 J0 c d] w λe l=> ∃f g,e= .returned (G1 J0 f g)/\f<18446744073709551616/\g<18446744073709551616/\lf f=JH a b c d/\lf g=JF a b c d/\Still w l:=by
 obtain ⟨p,m,v,x,y,z⟩:=nK .mul YR a c h j w;obtain ⟨q,n,A,B,C,D⟩:=nK .mul YR b d i k m;obtain ⟨f,o,E,F,G,H⟩:=nK .sub YR p q x B n;obtain ⟨r,t,I,J,K,L⟩:=nK .mul YR a d h k o;obtain ⟨s,u,M,N,O,P⟩:=nK .mul YR b c i j t;obtain ⟨g,Q,T,V,W,X⟩:=nK .add YR r s J N u;refine (vD a b c d p q r s f g w m n o t u Q v A E I M T).mono ?_;rintro e l ⟨rfl,rfl⟩;refine ⟨f,g,R,F,V,?_,?_,(((((z.trans D).trans H).trans L).trans P).trans X)⟩
 ·rw[G,y,C];rfl
 ·rw[W,K,O];rfl
theorem vF (b:Nat)(a:b<18446744073709551616):(FloatKind.f64.format.order b b !=S .eq)=cT b:=by have h:=EG b b a a;grind
theorem IA (x y:Nat):(x==y)=((x:Int)==(y:Int)):=by grind
theorem OH (x y:Nat):decide (lf x=lf y)=if cT x then cT y else (!cT y && x==y):=by unfold lf;grind
theorem sd (x y:Nat)(f:x<18446744073709551616)(g:y<18446744073709551616)(w:World):n9 Try.prog 53 #[.float .f64 x,.float .f64 y] w λe j=>e= .returned (.bool (decide (lf x=lf y)))/\j=w:=by
 have k:=na;have a:=OH x y;have i:=vF x f;have h:=vF y g;cases d:cT x
 ·cases b:cT y
  ·rw[d]at i a;rw[b]at h a;have c:Hid (decide (lf x=lf y)=((x:Int)==(y:Int))):=by rw[Hid,a,<-IA];rfl
   clear a d b f g;go_enter Try.func53,Try.ntmps53
   go_wp2
   go_ret
   rw[ae c];simp
  ·rw[d]at i a;rw[b]at h a;have c:Hid (decide (lf x=lf y)=false):=by rw[Hid,a];rfl
   clear a d b f g;go_enter Try.func53,Try.ntmps53
   go_wp2
   go_ret
   rw[ae c];simp
 ·rw[d]at i a;have c:Hid (decide (lf x=lf y)=cT y):=by rw[Hid,a];rfl
  cases b:cT y
  ·rw[b]at h c;clear a d b f g;go_enter Try.func53,Try.ntmps53
   go_wp2
   go_ret
   rw[ae c];simp
  ·rw[b]at h c;clear a d b f g;go_enter Try.func53,Try.ntmps53
   go_wp2
   go_ret
   rw[ae c];simp
theorem xk (a b c d:Nat)(h:a<18446744073709551616)(i:b<18446744073709551616)(j:c<18446744073709551616)(k:d<18446744073709551616)(w:World):
  n9 Try.prog 29 #[G1 J0 a b,G1 J0 c d] w λe f=>e= .returned (.bool (decide (lf a=lf c) && decide (lf b=lf d)))/\f=w:=by
 have g:=au (sd a c h j);have m:=au (sd b d i k);clear h i j k;cases l:decide (lf a=lf c)
 ·rw[l]at g;go_enter Try.func29,Try.ntmps29
  go_wp2_with fail
  refine (ae g _).mono ?_;rintro e f ⟨rfl,rfl⟩;go_wp2
  go_ret
  simp
 ·rw[l]at g;go_enter Try.func29,Try.ntmps29
  go_wp2_with fail
  refine (ae g _).mono ?_;rintro e f ⟨rfl,rfl⟩;go_wp2_with fail
  refine (ae m _).mono ?_;rintro e f ⟨rfl,rfl⟩;go_wp2
  go_ret
  simp
theorem AI (a b c d:Nat)(f:a<18446744073709551616)(g:b<18446744073709551616)(h:c<18446744073709551616)(i:d<18446744073709551616)(k:lf a=lf c)(l:lf b=lf d)(w:World):
  n9 Try.prog 29 #[G1 J0 a b,G1 J0 c d] w λe j=>e= .returned (.bool true)/\j=w:=by
 have:=xk a b c d f g h i w;grind
theorem sD{h:Region.Mode}
  (p: ∀i o,g[i]? =S o-> ∀e∈o.after,o7 h e=true->e.on<i)
  (I:Array Bool->I2->World->Prop)
  (z: ∀listed a w i o,I listed a w->g[i]? =S o->listed.getD i true=false->(∀e∈o.after,o7 h e=true->listed.getD e.on false=true)->wpOp P g Q i (I (listed.setIfInBounds i true)) a w)
  (t: ∀listed a w,I listed a w->(∀i,i<g.size->listed.getD i false=true)->Q .normal a w):
  ∀c (listed:Array Bool) a w,listed.size=g.size->listed.countP (λb=> !b)<=c->I listed a w->wpAny P h g Q c listed a w:=by
 have k: ∀listed:Array Bool,listed.size=g.size->G4 h g listed= []-> ∀i,i<g.size->listed.getD i false=true:=by
  intro listed f q i;induction i using Nat.strongRecOn with
  | _ i u=>
   intro l;cases v:listed.getD i false with
   | true=>rfl
   | false=>
    have d:i<listed.size:=YP;have r:listed.getD i true=false:=by rw[Array.getD_eq_getD_getElem?,Array.getElem?_eq_getElem d]at v ⊢;exact v
    have x:i∈G4 h g listed:=G3.2 ⟨r,g[i],Array.getElem?_eq_getElem l,λe A L=> ?_⟩;·rw[q]at x;cases x
    grind
 intro c;induction c with
 | zero=>
  intro listed a w f B m;have C: ∀i,i<g.size->listed.getD i false=true:=by intro i l;have d:i<listed.size:=YP;have D:listed.countP (λb=> !b)=0:=YP;have:=Array.countP_eq_zero.1 D listed[i] (Array.getElem_mem d);rw[Array.getD_eq_getD_getElem?,Array.getElem?_eq_getElem d];simpa using this
  refine ⟨?_,t listed a w m C⟩;apply List.eq_nil_iff_forall_not_mem.2;intro j E;obtain ⟨n,o,y,_⟩:=G3.1 E;grind
 | succ c u=>
  intro listed a w f B m;refine ⟨λq=>t listed a w m (k listed f q),λi l=> ?_⟩;obtain ⟨n,o,y,F⟩:=G3.1 l;have G:i<g.size:=YS;have d:i<listed.size:=YP;refine wpOp_mono (λH J s=>u _ H J (by simpa using f) ?_ s) (z listed a w i o m y n F);have K:listed[i]=false:=by rw[Array.getD_eq_getD_getElem?,Array.getElem?_eq_getElem d]at n;simpa using n
  grind
def bD (P:D6)(o:D4)(a:I2)(w:World)(c:l9->World->Prop):Prop:=
 (∃v b,(o9 a.eval o).run P w= .ok (.value v) b/\c v b)\/
 (∃b,(o9 a.eval o).run P w= .ok .skip b/\c U b)\/
 (∃f args,(o9 a.eval o).run P w= .ok (.enter f args) w/\n9 P f args w λe b=> ∃v,e= .returned v/\c v b)
def ec (P:D6)(o:D4)(a:I2)(w:World)(V:l9->Prop)(C:World->Prop):Prop:=bD P o a w λv b=>V v/\C b
theorem kQ{K:I2->World->Prop}
  (i:g[n]? =S o)(j:o.guard=none)(h:bD P o e w D)(d: ∀v b,D v b->K (e.put o.dst v) b):wpOp P g Q n K e w:=by
 unfold wpOp;have k:z6 o (yielded g e.tmps)=true:=by simp[z6,j]
 simp only[i,k,if_true];refine .inl ?_;unfold Oper.wp;rcases h with ⟨v,b,a,c⟩ | ⟨b,a,c⟩ | ⟨f,args,a,l⟩
 ·rw[a];exact d _ _ c
 ·rw[a];exact d _ _ c
 ·rw[a];exact l.mono λp m ⟨v,q,c⟩=>YS
structure ez (ops:Array D4)(a0:I2)(V:Nat->l9->Prop)(C:Array Bool->I2->World->Prop)(listed:Array Bool)(a:I2)(w:World):Prop where
 size:a.tmps.size=a0.tmps.size
 defers:a.defers=a0.defers
 base: ∀t,(ops.all λo=>o.dst !=S t)=true->a.eval (.tmp t)=a0.eval (.tmp t)
 pre: ∀i o d,ops[i]? =S o->o.dst=S d->listed.getD i false=false->a.eval (.tmp d)=a0.eval (.tmp d)
 slot: ∀i o d,ops[i]? =S o->o.dst=S d->listed.getD i false=true->V d (a.eval (.tmp d))
 closed: ∀i o,ops[i]? =S o->listed.getD i false=true-> ∀e∈o.after,o7 .any e=true->listed.getD e.on false=true
 world:C listed a w
theorem cv(V:Nat->l9->Prop)(C:Array Bool->Act->World->Prop)
  (hm:P.follows .mixedOrders=true)
  (D:(p8 g.size).all (λi=>((g[i]?).map λo=>o.guard.isNone && o.after.all λq=> !o7 .any q || decide (q.on<i)).getD true)=true)
  (H:(p8 g.size).all (λi=>(p8 g.size).all λj=>decide (i=j) || ((g[i]?).bind (·.dst)).isNone || decide ((g[i]?).bind (·.dst)≠(g[j]?).bind (·.dst)))=true)
  (T:Nat)(E:(p8 g.size).all (λi=>(((g[i]?).bind (·.dst)).map λd=>decide (d<T)).getD true)=true)
  (h0:e.tmps.size=T)(W:C (Array.replicate g.size false) e w.drew)
  (hs: ∀ (listed:Array Bool)(f:Act)(x:World) i o,ez g e V C listed f x->g[i]? =some o->listed.size=g.size->listed.getD i true=false->(∀q∈o.after,o7 .any q=true->listed.getD q.on false=true)->
   bD P o f x (λv I=>(∀d,o.dst=some d->V d v)/\C (listed.setIfInBounds i true) (f.put o.dst v) I))
  (he: ∀ (listed:Array Bool)(f:Act)(x:World),ez g e V C listed f x->(∀i,i<g.size->listed.getD i false=true)->Q .normal f x):
  (C0 n g true).wp P Q e w:=by
 have HB: ∀i o,g[i]? =some o->o.guard=none/\ ∀q∈o.after,o7 .any q=true->q.on<i:=by intro i o p;have X:i<g.size:=YS;have s:=q9.1 D i YS;rw[p]at s;simp only[x9,z5,Bool.and_eq_true,Array.all_eq_true_iff_forall_mem]at s;refine ⟨by simpa using s.1,λq A N=> ?_⟩;have:=s.2 q A;simpa[N]using this
 have HD: ∀ (i j:Nat)(o y:Oper)(d:Nat),g[i]? =some o->g[j]? =some y->o.dst=some d->y.dst=some d->i=j:=by intro i j o y d p a F b;have X:i<g.size:=YS;have hj:j<g.size:=YS;have s:=q9.1 (q9.1 H i YS) j YS;rw[p,a]at s;simpa[F,b]using s
 have HN: ∀ (i:Nat)(o:Oper)(d:Nat),g[i]? =some o->o.dst=some d->d<T:=by intro i o d p F;have X:i<g.size:=YS;have s:=q9.1 E i YS;rw[p]at s;simp only[Option.bind_some,F,x9,z5]at s;simpa using s
 refine wp_region_any hm ?_;refine sD (λi o p=>(HB i o p).2) (λlisted f x=>listed.size=g.size/\ez g e V C listed f x) ?_ (λlisted f x h s=>he listed f x h.2 s) g.size _ e _ YR (Nat.le_trans (Array.countP_le_size) YR) ?_
 ·intro listed f x i o u p O F;obtain ⟨Y,u⟩:=u;have X:i<g.size:=YS;refine kQ p (HB i o p).1 (hs listed f x i o u p Y O F) ?_;intro v I Z;obtain ⟨hv,hC⟩:=Z;refine ⟨YS,?_⟩;have J: ∀t d,o.dst=some d->t≠d->(f.put o.dst v).eval (.tmp t)=f.eval (.tmp t):=by intro t d r J;refine Act.eval_put ?_;intro z b q;rw[r]at b;cases b;cases q;exact J R
  have a0: ∀t,o.dst=none->(f.put o.dst v).eval (.tmp t)=f.eval (.tmp t):=by intro t r;rw[r];rfl
  have l: ∀t,o.dst≠some t->(f.put o.dst v).eval (.tmp t)=f.eval (.tmp t):=by
   intro t ht;cases K:o.dst with
   | none=>rfl
   | some d=>grind
  have G:i<listed.size:=YP;have L:(listed.setIfInBounds i true).getD i false=true:=by simp[G]
  refine ⟨?_,?_,?_,?_,?_,?_,hC⟩
  ·cases K:o.dst with
   | none=>simpa[Act.put]using u.size
   | some d=>simpa[Act.put]using u.size
  ·cases K:o.dst with
   | none=>simpa[Act.put]using u.defers
   | some d=>simpa[Act.put]using u.defers
  ·intro t ht;rw[l t ?_];·exact u.base t ht
   ·have:=Array.all_eq_true_iff_forall_mem.1 ht o (Array.mem_of_getElem? p);grind
  ·intro j y z a b c;have m:j≠i:=by rintro rfl;rw[L]at c;cases c
   rw[m7 false (Ne.symm m)]at c;rw[l z (λr=>m (HD j i y o z a p b r))];exact u.pre j y z a b c
  ·intro j y z a b c;by_cases m:j=i
   ·subst m;rw[p]at a;cases a;have G:z<f.tmps.size:=by rw[u.size,h0];exact HN j o z p b
    have:(f.put o.dst v).eval (.tmp z)=v:=by rw[b];simp[Act.put,Act.eval,G]
    grind
   ·rw[m7 false (Ne.symm m)]at c;rw[l z (λr=>m (HD j i y o z a p b r))];exact u.slot j y z a b c
  ·intro j y a c q A N;have B: ∀k,listed.getD k false=true->(listed.setIfInBounds i true).getD k false=true:=λk hk=>getD_set_true hk;by_cases m:j=i
   ·subst m;rw[p]at a;cases a;exact B _ (F q A N)
   ·rw[m7 false (Ne.symm m)]at c;exact B _ (u.closed j y a c q A N)
 ·have M: ∀i,(Array.replicate g.size false).getD i false=false:=by intro i;rw[Array.getD_eq_getD_getElem?,Array.getElem?_replicate];split<;>rfl
  refine ⟨YR,R,R,λ_ _=>rfl,λ_ _ _ _ _ _=>rfl,?_,?_,W⟩
  ·intro i o d p F O;rw[M]at O;cases O
  grind
theorem dF(V:Nat->l9->Prop)(C:Array Bool->World->Prop)
  (q:P.follows .mixedOrders=true)
  (a:(p8 g.size).all (λi=>((g[i]?).map λo=>o.guard.isNone && o.after.all λc=> !o7 .any c || decide (c.on<i)).getD true)=true)
  (f:(p8 g.size).all (λi=>(p8 g.size).all λj=>decide (i=j) || ((g[i]?).bind (·.dst)).isNone || decide ((g[i]?).bind (·.dst)≠(g[j]?).bind (·.dst)))=true)
  (m:Nat)(b:(p8 g.size).all (λi=>(((g[i]?).bind (·.dst)).map λd=>decide (d<m)).getD true)=true)
  (r:e.tmps.size=m)(p:C (Array.replicate g.size false) w.drew)
  (s: ∀ (listed:Array Bool)(h:Act)(k:World) i o,ez g e V (λl _ w=>C l w) listed h k->g[i]? =S o->listed.size=g.size->listed.getD i true=false->(∀c∈o.after,o7 .any c=true->listed.getD c.on false=true)->
   ec P o h k (λv=> ∀d,o.dst=S d->V d v) (C (listed.setIfInBounds i true)))
  (t: ∀ (listed:Array Bool)(h:Act)(k:World),ez g e V (λl _ w=>C l w) listed h k->(∀i,i<g.size->listed.getD i false=true)->Q .normal h k):
  (C0 n g true).wp P Q e w:=cv V (λl _ w=>C l w) q a f m b r p s t
theorem gZ (a:I2)(n:Nat)(h:a.tmps.size=n):a=⟨((p8 n).map λt=>a.eval (.tmp t)).toArray,a.defers⟩:=by
 obtain ⟨b,d⟩:=a;congr 1
 apply Array.ext
 ·grind
 ·intro i c e;simp[v9,c]
abbrev C2:=Option Nat×Option Nat
def Qg (c:D8)(a b:C2):C2:=(uc c a.1 b.1,uc c a.2 b.2)
def xp (a b:C2):C2:=Qg .add a b
def Oh (a b:C2):C2:=Qg .sub a b
def bm (a b:C2):C2:=(uc .sub (uc .mul a.1 b.1) (uc .mul a.2 b.2),uc .add (uc .mul a.1 b.2) (uc .mul a.2 b.1))
def aS (v:l9)(z:C2):Prop:= ∃r i,v= G1 J0 r i/\r<18446744073709551616/\i<18446744073709551616/\lf r=z.1/\lf i=z.2
theorem aS.of (r i:Nat)(a:r<18446744073709551616)(b:i<18446744073709551616):aS (G1 J0 r i) (lf r,lf i):=⟨r,i,R,a,b,R,R⟩
variable {z:C2}
theorem mulC{b:C2}(l:aS r z)(m:aS v b)(w:World):n9 Try.prog 43 #[r,v] w λe d=> ∃a,e= .returned a/\aS a (bm z b)/\Still w d:=by
 obtain ⟨a,i,rfl,n,o,f,g⟩:=l;obtain ⟨s,j,rfl,p,q,h,k⟩:=m;refine (Lz a i s j n o p q w).mono ?_;rintro e d ⟨t,u,rfl,x,y,A,B,c⟩;refine ⟨_,R,⟨t,u,R,x,y,?_,?_⟩,c⟩
 ·rw[A,JH,f,g,h,k];rfl
 ·rw[B,JF,f,g,h,k];rfl
theorem rn (a:D8)(c:a= .add\/a= .sub)(x y:Nat)(f:x<18446744073709551616)(g:y<18446744073709551616)(w:World):
  ∃r e,(A9 a .f64 x y).run Try.prog w= .ok r e/\r<18446744073709551616/\lf r=uc a (lf x) (lf y)/\Still w e:=by
 have b:a= .add\/a= .sub\/a= .mul:=by rcases c with h | h<;>simp[h]
 rw[<-vd a b x y f g];cases h:floatBits a .f64 x y with
 | some r=>refine ⟨r,w,run_carith w h,zo r (floatBits_wf h),?_,Still.refl w⟩;unfold lf;rw[rp a b x y r h];rfl
 | none=>
  have i:=zt x y (w.tape w.drawn (.nanBits .f64 x y));refine ⟨(w9 .f64 x y).cut (w.tape w.drawn (.nanBits .f64 x y)),w.drew,?_,i.2,?_,dJ w⟩
  ·rcases c with rfl | rfl
   ·have d:FloatKind.f64.format.add x y=none:=h;simp[A9,z7,d,x8]
   ·have d:FloatKind.f64.format.sub x y=none:=h;simp[A9,z7,d,x8]
  ·unfold lf;simp_all
theorem Pl (c:D8)(a:c= .add\/c= .sub){b:C2}(f:aS r z)(g:aS v b)(t:H7)(w:World):
  ∃d e,(binOp c t r v).run Try.prog w= .ok d e/\aS d (Qg c z b)/\Still w e:=by
 obtain ⟨d,i,rfl,h,k,l,m⟩:=f;obtain ⟨s,j,rfl,n,o,u,x⟩:=g;obtain ⟨p,y,A,B,C,D⟩:=rn c a d s h n w;obtain ⟨q,E,F,G,H,I⟩:=rn c a i j k o y;refine ⟨G1 J0 p q,E,?_,⟨p,q,R,B,G,?_,?_⟩,D.trans I⟩
 ·rcases a with rfl | rfl<;>simp[binOp,Op.complexOp,A,F]
 ·rw[C,l,u];rfl
 ·rw[H,m,x];rfl
theorem Still.cell {w w':World}(h:Still w w')(p:x5):w'.cell? p=w.cell? p:=(h (p.block + 1)).cell (B0 _)
theorem Still.frozen {w a:World}(h:Still w a)(p:x5):a.frozen? p=w.frozen? p:=(h (p.block + 1)).frozen (B0 _)
theorem Still.block {w a:World}(h:Still w a)(k:Nat):a.heap[k]? =w.heap[k]? :=(h (k + 1)).block k (B0 _)
theorem Still.grown(h:Still w W)(row:Option Nat):w.grownBy W row:=⟨(h 0).os,(h 0).tape,(h 0).output,(h 0).size,λk _ _=>h.block k⟩
theorem fv (w:World)(a:Option Nat):w.grownBy w a:=⟨R,R,R,n7 _,λ_ _ _=>rfl⟩
theorem bg {c:World}(h:w.grownBy W m)(k:W.grownBy c m):w.grownBy c m:=
 ⟨k.os.trans h.os,k.tape.trans h.tape,k.output.trans h.output,y3 h.size k.size,λi a b=>(k.block i (n8 a h.size) b).trans (h.block i a b)⟩
theorem ft (w:World)(a:Option Nat):w.grownBy w.drew a:=⟨R,R,R,n7 _,λ_ _ _=>rfl⟩
structure dM where
 b0:C2
 b1:C2
 b2:C2
 a1:C2
 a2:C2
def rY (s:dM)(p x:C2):C2:=xp (bm s.b0 x) p
def MV (s:dM)(q x y:C2):C2:=Oh (xp (bm s.b1 x) q) (bm s.a1 y)
def MW (s:dM)(x y:C2):C2:=Oh (bm s.b2 x) (bm s.a2 y)
section
variable {d:Nat}
theorem aj(b:o.dst=S d)(c:V d v): ∀a,o.dst=S a->V a v:=by grind
theorem br(a:o.op= .move x)(b:o.dst=S d)(c:e.eval x=v)(f:V d v)(g:C w):
  ec Try.prog o e w (λv=> ∀d,o.dst=S d->V d v) C:=
 .inl ⟨v,w,by simp[o9,a,c],aj b f,g⟩
theorem jD(a:o.op= .assign x)(b:o.dst=S d)(c:e.eval x=v)(f:V d v)(g:C w):
  ec Try.prog o e w (λv=> ∀d,o.dst=S d->V d v) C:=
 .inl ⟨v,w,by simp[o9,a,c],aj b f,g⟩
theorem bI(a:o.op= .fieldAddr t x n)(b:o.dst=S d)(c:e.eval x=v)(f:(q8 t v n).run Try.prog w= .ok r w)(g:V d r)(h:C w):
  ec Try.prog o e w (λv=> ∀d,o.dst=S d->V d v) C:=
 .inl ⟨r,w,by simp[o9,a,c,f],aj b g,h⟩
theorem bY(a:o.op= .load t x)(b:o.dst=S d)(c:e.eval x=v)(f:(x0 t v).run Try.prog w= .ok r w)(g:V d r)(h:C w):
  ec Try.prog o e w (λv=> ∀d,o.dst=S d->V d v) C:=
 .inl ⟨r,w,by simp[o9,a,c,f],aj b g,h⟩
theorem qc {y:y8}{b:C2}(a:o.op= .call {callee:= .value (.func 43),args:= #[x,y],argTypes:=p})(g:o.dst=S n)(d:aS (e.eval x) z)(f:aS (e.eval y) b)
  (h: ∀v,aS v (bm z b)->V n v)(i: ∀c,Still w c->C c):ec Try.prog o e w (λv=> ∀n,o.dst=S n->V n v) C:=by
 refine .inr (.inr ⟨43,#[e.eval x,e.eval y],?_,?_⟩)
 ·simp[o9,a];go_simp
 ·refine (mulC d f w).mono ?_;grind
theorem qd {y:y8}{f:H7}{b:D8}{za:C2}(d:o.op= .binOp b t x y f)(a:b= .add\/b= .sub)(g:o.dst=S n)(h:aS (e.eval x) za)(i:aS (e.eval y) z)
  (j: ∀v,aS v (Qg b za z)->V n v)(k: ∀c,Still w c->C c):ec Try.prog o e w (λv=> ∀n,o.dst=S n->V n v) C:=by
 obtain ⟨r,c,l,m,p⟩:=Pl b a h i t w;refine .inl ⟨r,c,?_,aj g (j r m),k c p⟩;rcases a with rfl | rfl<;>simp[execOp,d,eqGuard,l]
end
theorem jy (b f:Nat)(a:f<5)(w:World):(q8 70 (J4 (S ⟨b,0,none⟩)) f).run Try.prog w= .ok (J4 (S ⟨b,f,none⟩)) w:=by rcases (by omega:f=0\/f=1\/f=2\/f=3\/f=4)with rfl | rfl | rfl | rfl | rfl<;>go_simp
theorem mN (b f:Nat)(a:f<2)(w:World):(q8 84 (J4 (S ⟨b,0,none⟩)) f).run Try.prog w= .ok (J4 (S ⟨b,f,none⟩)) w:=by rcases (by omega:f=0\/f=1)with rfl | rfl<;>go_simp
theorem jg (p:x5)(r i:Nat)(w:World)(h:w.cell? p=S (G1 J0 r i)):(x0 26 (.pointer (S p))).run Try.prog w= .ok (G1 J0 r i) w:=by go_simp
theorem De (r i s j:Nat)(w:World):(G9 84 #[(0,G1 J0 r i),(1,G1 J0 s j)]).run Try.prog w= .ok (.agg #[G1 J0 r i,G1 J0 s j]) w:=by go_simp
theorem ic:(Try.prog.info? 84).map (·.size)=S 2:=Zh
theorem kz:(Try.prog.info? 70).map (·.size)=S 5:=Zh
theorem aS.one(h:aS v z):v.oneCell'=true:=by obtain ⟨r,i,rfl,_⟩:=h;rfl
section
variable {d:Nat}
theorem vM {y:y8}{b:C2}(a:o.op= .build 84 #[(0,x),(1,y)])(c:o.dst=S d)(f:e.eval x=r)(g:e.eval y=v)(h:aS r z)(k:aS v b)
  (l:V d (.agg #[r,v]))(m:C w):ec Try.prog o e w (λv=> ∀d,o.dst=S d->V d v) C:=by
 obtain ⟨n,i,rfl,_⟩:=h;obtain ⟨s,j,rfl,_⟩:=k;exact .inl ⟨_,w,by simp[o9,a,f,g,De],aj c l,m⟩
theorem kD {b:y8}(a:o.op= .store t x b)(j:o.dst=none)(c:e.eval x= J4 (S ⟨B,L,none⟩))(d:e.eval b= .agg y)
  (f:(Try.prog.info? t).map (·.size)=S y.size)(g:y.all (·.oneCell')=true)(h:w.there B L y.size)(i:C (w.setCells B L y.toList)):ec Try.prog o e w (λv=> ∀n,o.dst=S n->V n v) C:=by
 refine .inr (.inl ⟨_,?_,?_,i⟩)
 ·simp[o9,a,c,d,F2 w B L t y h f g]
 grind
end
def SW (B:Nat)(b p x:l9)(c a:C2):Nat->l9->Prop
 | 9,v=>v= J4 (S ⟨B,0,none⟩)
 | 10,v=>v=b
 | 11,v=>v=x
 | 12,v=>aS v c
 | 13,v=>v= J4 (S ⟨B + 1,0,none⟩)
 | 14,v=>v=p
 | 15,v=>aS v a
 | 8,v=>aS v a
 | _,_=>True
def SX (B:Nat)(b c d e q x y:l9)(a:dM)(Q X Y:C2):Nat->l9->Prop
 | 16,v=>v=y
 | 17,v=>v= J4 (S ⟨B,1,none⟩)
 | 18,v=>v=b
 | 19,v=>v=x
 | 20,v=>aS v (bm a.b1 X)
 | 21,v=>v= J4 (S ⟨B + 1,1,none⟩)
 | 22,v=>v=q
 | 23,v=>aS v (xp (bm a.b1 X) Q)
 | 24,v=>v= J4 (S ⟨B,3,none⟩)
 | 25,v=>v=d
 | 26,v=>v=y
 | 27,v=>aS v (bm a.a1 Y)
 | 28,v=>aS v (MV a Q X Y)
 | 29,v=>v= J4 (S ⟨B,2,none⟩)
 | 30,v=>v=c
 | 31,v=>v=x
 | 32,v=>aS v (bm a.b2 X)
 | 33,v=>v= J4 (S ⟨B,4,none⟩)
 | 34,v=>v=e
 | 35,v=>v=y
 | 36,v=>aS v (bm a.a2 Y)
 | 37,v=>aS v (MW a X Y)
 | 38,v=> ∃r s,v= .agg #[r,s]/\aS r (MV a Q X Y)/\aS s (MW a X Y)
 | 6,v=>v=y
 | _,_=>True
def rC (W:World)(B:Nat)(b c:C2)(a:Array Bool)(w:World):Prop:=
 W.grownBy w (S (B + 2))/\w.there (B + 2) 0 2/\(a.getD 24 false=true-> ∃u v,w.rangeAt (B + 2) 0 [u,v]/\aS u b/\aS v c)
theorem Still.there {w a:World}(h:Still w a){b o n:Nat}(c:w.there b o n):a.there b o n:=λj d=>by rw[h.cell,h.frozen];exact c j d
theorem Still.range(h:Still w W){cs:List l9}(a:w.rangeAt n B cs):W.rangeAt n B cs:=λj v b=>by rw[h.cell];exact a j v b
theorem rC.still {b:World}{c:C2}(h:rC W B z c f w)(a:Still w b)(i:Nat)(e:i≠24):rC W B z c (f.setIfInBounds i true) b:=by obtain ⟨g,j,k⟩:=h;refine ⟨bg g (a.grown _),a.there j,λd=> ?_⟩;rw[m7 false e]at d;obtain ⟨u,v,l,m,n⟩:=k d;exact ⟨u,v,a.range l,m,n⟩
theorem rC.same{a:C2}(h:rC W B z a f w)(i:Nat)(b:i≠24):rC W B z a (f.setIfInBounds i true) w:=h.still (Still.refl w) i b
theorem rC.cell {W w:World}{B:Nat}{b c:C2}{a:Array Bool}(h:rC W B b c a w){p:x5}{v:l9}(d:W.cell? p=S v)(e:p.block≠B + 2):w.cell? p=S v:=
 h.1.cell d YS
theorem bV{o:Nat}{cs:List l9}(h:W.grownBy w (S n)):W.grownBy (w.setCells n o cs) (S n):=by
 induction cs generalizing w o with
 | nil=>exact h
 | cons v r a=>rw[World.setCells];exact a ⟨h.os,h.tape,h.output,by simpa[C7]using h.size,λk b c=>by rw[D5 _ _ _ _ YS];exact h.block k b c⟩
theorem iz(a:w.there B L n):(w.setCells B s h).there B L n:=λj b=>⟨World.isSome_setCells B h s w _ (a j b).1,by rw[World.frozen?_setCells];exact (a j b).2⟩
theorem rC.store{a:C2}(h:rC W B z a f w)(c:aS r z)(d:aS v a):rC W B z a (f.setIfInBounds 24 true) (w.setCells (B + 2) 0 [r,v]):=by obtain ⟨e,b,g⟩:=h;exact ⟨bV e,iz b,λ_=>⟨r,v,v7 w (B + 2) 0 [r,v] b,c,d⟩⟩
theorem nQ{u:l9}(a:y.getD 6 U=r)(b:y.getD 7 U= J4 (S ⟨n,0,none⟩))(c:w.rangeAt n 0 [u,v]):
  (G5 Try.f44 y).run Try.prog w= .ok (.tuple #[r,.agg #[u,v]]) w:=by
 have d:=B5 (P:=Try.prog) w n 0 84 [u,v] _ c Try.underlying84 R ic;rw[o8]at a b;simp[G5,a,b,asAddr,d]
theorem rX (N B O C T D V E H F s Y t Z x L:Nat)(m:dM)(P Q X:C2)
  (h0:aS (G1 J0 N B) m.b0)(h1:aS (G1 J0 O C) m.b1)(h2:aS (G1 J0 T D) m.b2)(h3:aS (G1 J0 V E) m.a1)(h4:aS (G1 J0 H F) m.a2)
  (hp:aS (G1 J0 s Y) P)(hq:aS (G1 J0 t Z) Q)(hx:aS (G1 J0 x L) X)(w:World):
  n9 Try.prog 44 #[.agg #[G1 J0 N B,G1 J0 O C,G1 J0 T D,G1 J0 V E,G1 J0 H F],.agg #[G1 J0 s Y,G1 J0 t Z],G1 J0 x L] w
   λe A=> ∃y u v,e= .returned (.tuple #[y,.agg #[u,v]])/\aS y (rY m P X)/\aS u (MV m Q X (rY m P X))/\aS v (MW m X (rY m P X))/\Below w.heap.size w A:=by
 go_enter Try.func44,Try.ntmps44
 go_wp2_with fail
 rename_i K hK;have HK:=au hK;clear hK;obtain ⟨W,G⟩: ∃W,W=(((w.alloc (o2 #[G1 J0 N B,G1 J0 O C,G1 J0 T D,G1 J0 V E,G1 J0 H F] 70)).alloc (o2 #[G1 J0 s Y,G1 J0 t Z] 84)).alloc (o2 #[G1 J0 0 0,G1 J0 0 0] 84)):=⟨_,R⟩;rw[<-G];have c0:W.cell? ⟨w.heap.size,0,none⟩=S (G1 J0 N B):=by rw[G];go_simp
 have c1:W.cell? ⟨w.heap.size,1,none⟩=S (G1 J0 O C):=by rw[G];go_simp
 have c2:W.cell? ⟨w.heap.size,2,none⟩=S (G1 J0 T D):=by rw[G];go_simp
 have c3:W.cell? ⟨w.heap.size,3,none⟩=S (G1 J0 V E):=by rw[G];go_simp
 have c4:W.cell? ⟨w.heap.size,4,none⟩=S (G1 J0 H F):=by rw[G];go_simp
 have d0:W.cell? ⟨w.heap.size + 1,0,none⟩=S (G1 J0 s Y):=by rw[G];go_simp
 have d1:W.cell? ⟨w.heap.size + 1,1,none⟩=S (G1 J0 t Z):=by rw[G];go_simp
 have th:W.there (w.heap.size + 2) 0 2:=by intro j hj;rcases (by omega:j=0\/j=1)with rfl | rfl<;>(rw[G];constructor<;>go_simp)
 have I:Below w.heap.size w W:=by rw[G];exact (((o3 _ _).alloc (n7 _) _).alloc YR _).alloc YT _
 clear G;refine dF (SW w.heap.size (G1 J0 N B) (G1 J0 s Y) (G1 J0 x L) (bm m.b0 X) (rY m P X)) (λ_ A=>Still W A) Zh Zh Zh 39 Zh R (dJ W) ?_ ?_
 ·intro listed a w1 i o b ho a3 hl d;have hi:i<8:=by simpa using (m6.1 ho).1
  have e2:a.eval (.tmp 2)=(G1 J0 x L):=(b.base 2 Zh).trans R;have M:a.eval (.tmp 3)=(J4 (S ⟨w.heap.size,0,none⟩)):=(b.base 3 Zh).trans R;have e4:a.eval (.tmp 4)=(J4 (S ⟨w.heap.size + 1,0,none⟩)):=(b.base 4 Zh).trans R;have f:=b.world;rcases (by omega:i=0\/i=1\/i=2\/i=3\/i=4\/i=5\/i=6\/i=7)with rfl | rfl | rfl | rfl | rfl | rfl | rfl | rfl
  all_goals obtain rfl:=m5 ho
  ·exact bI R R M (jy _ 0 YP _) R f
  ·have k:=b.slot 0 _ 9 R R (d ⟨0,.data⟩ YR R);exact bY R R k (jg _ _ _ _ (by rw[f.cell];exact c0)) R f
  ·exact br R R e2 R f
  ·have g:=b.slot 1 _ 10 R R (d ⟨1,.data⟩ YR R);have l:=b.slot 2 _ 11 R R (d ⟨2,.data⟩ YR R);exact qc R R (g▸h0) (l▸hx) (λv n=>n) (λA p=>f.trans p)
  ·exact bI R R e4 (mN _ 0 YP _) R f
  ·have k:=b.slot 4 _ 13 R R (d ⟨4,.data⟩ YR R);exact bY R R k (jg _ _ _ _ (by rw[f.cell];exact d0)) R f
  ·have g:=b.slot 3 _ 12 R R (d ⟨3,.data⟩ YR R);have l:=b.slot 5 _ 14 R R (d ⟨5,.data⟩ YR R);exact qd R (.inl R) R g (l▸hp) (λv n=>n) (λA p=>f.trans p)
  ·have g:=b.slot 6 _ 15 R R (d ⟨6,.data⟩ YR R);exact jD R R R g f
 ·intro listed a w1 b z;have f2:a.eval (.tmp 2)=(G1 J0 x L):=(b.base 2 Zh).trans R;have f3:a.eval (.tmp 3)=(J4 (S ⟨w.heap.size,0,none⟩)):=(b.base 3 Zh).trans R;have f4:a.eval (.tmp 4)=(J4 (S ⟨w.heap.size + 1,0,none⟩)):=(b.base 4 Zh).trans R;have f7:a.eval (.tmp 7)=(J4 (S ⟨w.heap.size + 2,0,none⟩)):=(b.base 7 Zh).trans R;have f:=b.world;have ky:aS (a.eval (.tmp 8)) (rY m P X):=b.slot 7 _ 8 R R (z 7 YQ);have J:a.tmps.size=39:=b.size;have a0:a.defers= []:=b.defers;clear b z;obtain ⟨y,f8⟩: ∃y,a.eval (.tmp 8)=y:=⟨_,R⟩;rw[f8]at ky;refine ae HK _ _ (wp_seq ?_);clear HK;refine dF (SX w.heap.size (G1 J0 O C) (G1 J0 T D) (G1 J0 V E) (G1 J0 H F) (G1 J0 t Z) (G1 J0 x L) y m Q X (rY m P X)) (rC W w.heap.size (MV m Q X (rY m P X)) (MW m X (rY m P X))) Zh Zh Zh 39 Zh J ?_ ?_ ?_
  ·exact ⟨bg (f.grown _) (ft _ _),(dJ w1).there (f.there th),λh=>by simp at h⟩
  ·intro listed H w2 i o b ho a3 hl d;have hi:i<25:=by simpa using (m6.1 ho).1
   have e2:=(b.base 2 Zh).trans f2;have M:=(b.base 3 Zh).trans f3;have e4:=(b.base 4 Zh).trans f4;have e7:=(b.base 7 Zh).trans f7;have e8:=(b.base 8 Zh).trans f8;have c:=b.world;rcases (by omega:i=0\/i=1\/i=2\/i=3\/i=4\/i=5\/i=6\/i=7\/i=8\/i=9\/i=10\/i=11\/i=12\/i=13\/i=14\/i=15\/i=16\/i=17\/i=18\/i=19\/i=20\/i=21\/i=22\/i=23\/i=24)with rfl | rfl | rfl | rfl | rfl | rfl | rfl | rfl | rfl | rfl | rfl | rfl | rfl | rfl | rfl | rfl | rfl | rfl | rfl | rfl | rfl | rfl | rfl | rfl | rfl
   all_goals obtain rfl:=m5 ho
   ·exact br R R e8 R (c.same 0 YP)
   ·exact bI R R M (jy _ 1 YP _) R (c.same 1 YP)
   ·have k:=b.slot 1 _ 17 R R (d ⟨1,.data⟩ YR R);exact bY R R k (jg _ _ _ _ (c.cell c1 YR)) R (c.same 2 YP)
   ·exact br R R e2 R (c.same 3 YP)
   ·have g:=b.slot 2 _ 18 R R (d ⟨2,.data⟩ YR R);have l:=b.slot 3 _ 19 R R (d ⟨3,.data⟩ YR R);exact qc R R (g▸h1) (l▸hx) (λv n=>n) (λA p=>c.still p 4 YP)
   ·exact bI R R e4 (mN _ 1 YP _) R (c.same 5 YP)
   ·have k:=b.slot 5 _ 21 R R (d ⟨5,.data⟩ YR R);exact bY R R k (jg _ _ _ _ (c.cell d1 YR)) R (c.same 6 YP)
   ·have g:=b.slot 4 _ 20 R R (d ⟨4,.data⟩ YR R);have l:=b.slot 6 _ 22 R R (d ⟨6,.data⟩ YR R);exact qd R (.inl R) R g (l▸hq) (λv n=>n) (λA p=>c.still p 7 YP)
   ·exact bI R R M (jy _ 3 YP _) R (c.same 8 YP)
   ·have k:=b.slot 8 _ 24 R R (d ⟨8,.data⟩ YR R);exact bY R R k (jg _ _ _ _ (c.cell c3 YR)) R (c.same 9 YP)
   ·exact br R R e8 R (c.same 10 YP)
   ·have g:=b.slot 9 _ 25 R R (d ⟨9,.data⟩ YR R);have l:=b.slot 10 _ 26 R R (d ⟨10,.data⟩ YR R);exact qc R R (g▸h3) (l▸ky) (λv n=>n) (λA p=>c.still p 11 YP)
   ·have g:=b.slot 7 _ 23 R R (d ⟨7,.data⟩ YR R);have l:=b.slot 11 _ 27 R R (d ⟨11,.data⟩ YR R);exact qd R (.inr R) R g l (λv n=>n) (λA p=>c.still p 12 YP)
   ·exact bI R R M (jy _ 2 YP _) R (c.same 13 YP)
   ·have k:=b.slot 13 _ 29 R R (d ⟨13,.data⟩ YR R);exact bY R R k (jg _ _ _ _ (c.cell c2 YR)) R (c.same 14 YP)
   ·exact br R R e2 R (c.same 15 YP)
   ·have g:=b.slot 14 _ 30 R R (d ⟨14,.data⟩ YR R);have l:=b.slot 15 _ 31 R R (d ⟨15,.data⟩ YR R);exact qc R R (g▸h2) (l▸hx) (λv n=>n) (λA p=>c.still p 16 YP)
   ·exact bI R R M (jy _ 4 YP _) R (c.same 17 YP)
   ·have k:=b.slot 17 _ 33 R R (d ⟨17,.data⟩ YR R);exact bY R R k (jg _ _ _ _ (c.cell c4 YR)) R (c.same 18 YP)
   ·exact br R R e8 R (c.same 19 YP)
   ·have g:=b.slot 18 _ 34 R R (d ⟨18,.data⟩ YR R);have l:=b.slot 19 _ 35 R R (d ⟨19,.data⟩ YR R);exact qc R R (g▸h4) (l▸ky) (λv n=>n) (λA p=>c.still p 20 YP)
   ·have g:=b.slot 16 _ 32 R R (d ⟨16,.data⟩ YR R);have l:=b.slot 20 _ 36 R R (d ⟨20,.data⟩ YR R);exact qd R (.inr R) R g l (λv n=>n) (λA p=>c.still p 21 YP)
   ·have g:=b.slot 12 _ 28 R R (d ⟨12,.data⟩ YR R);have l:=b.slot 21 _ 37 R R (d ⟨21,.data⟩ YR R);exact vM R R R R g l ⟨_,_,R,g,l⟩ (c.same 22 YP)
   ·have g:=b.slot 0 _ 16 R R (d ⟨0,.data⟩ YR R);exact jD R R g R (c.same 23 YP)
   ·obtain ⟨r,q,g,l,k3⟩:=b.slot 22 _ 38 R R (d ⟨22,.data⟩ YR R);exact kD R R e7 g ic (by simp[l.one,k3.one]) c.2.1 (c.store l k3)
  ·intro listed H w2 b z;have e7:=(b.base 7 Zh).trans f7;have k6:H.eval (.tmp 6)=y:=b.slot 23 _ 6 R R (z 23 YQ);have c:=b.world;obtain ⟨g1,_,g2⟩:=c;obtain ⟨u,v,hr,hu,n⟩:=g2 (z 24 YQ);refine wp_ret (bodyPost_ret (nQ k6 e7 hr) (b.defers.trans a0) ?_);exact ⟨y,u,v,R,ky,hu,n,I.grown g1 I.size (λk e=>YS)⟩
def Links (w:World)(L n:Nat)(a:Nat->dM)(b:Nat->C2×C2):Prop:=
 w.there L 0 (n * 7)/\ ∀i,i<n-> ∃c d e f g p q,w.rangeAt L (i * 7) [c,d,e,f,g,p,q]/\aS c (a i).b0/\aS d (a i).b1/\aS e (a i).b2/\aS f (a i).a1/\aS g (a i).a2/\aS p (b i).1/\aS q (b i).2
def sE (a:Nat->dM)(b:Nat->C2×C2)(x:C2):Nat->C2
 | 0=>x
 | k + 1=>rY (a k) (b k).1 (sE a b x k)
def FA (a:Nat->dM)(b:Nat->C2×C2)(x:C2)(k:Nat):C2×C2:=(MV (a k) (b k).2 (sE a b x k) (sE a b x (k + 1)),MW (a k) (sE a b x k) (sE a b x (k + 1)))
def fO (a:Nat->dM)(b:Nat->C2×C2)(x:C2)(k:Nat):Nat->C2×C2:=λi=>if i<k then FA a b x i else b i
variable {c:Nat->C2×C2}{d:Nat->dM}
theorem Links.grown{row:Option Nat}(h:Links w L n d c)(e:w.grownBy W row)(f:L<w.heap.size)(a:S L≠row):Links W L n d c:=by
 have b:=e.block L f a;refine ⟨λj g=> ?_,λi k=> ?_⟩
 ·rw[o4 (w:=w) b,z2 (w:=w) b];exact h.1 j g
 ·obtain ⟨l,m,o,r,s,p,q,t,u⟩:=h.2 i k;exact ⟨l,m,o,r,s,p,q,λj v x=>by rw[o4 (w:=w) b];exact t j v x,u⟩
theorem Links.still(h:Links w L n d c)(a:Still w W):Links W L n d c:=by refine ⟨a.there h.1,λi b=> ?_⟩;obtain ⟨e,f,g,j,k,p,q,l,m⟩:=h.2 i b;exact ⟨e,f,g,j,k,p,q,a.range l,m⟩
theorem Links.below {w':World}(h:Links w L n d c)(a:Below w.heap.size w w')(b:L<w.heap.size):Links w' L n d c:=
 h.grown (row:=none) ⟨a.os,a.tape,a.output,a.size,λk e _=>a.block k e⟩ b YR
theorem di(a:Below w.heap.size w W)(b:Option Nat):w.grownBy W b:=⟨a.os,a.tape,a.output,a.size,λk c _=>a.block k c⟩
theorem eS(h:w.there B 0 n)(a:L + s<=n):w.there B L s:=λj b=>by have:=h (L + j) YP;grind
theorem Links.set(h:Links w L n d c){k:Nat}(H:k<n){u:Value}{e:C2}(I:aS u z)(J:aS v e):
  Links (w.setCells L (k * 7 + 5) [u,v]) L n d (λi=>if i=k then (z,e)else c i):=by
 refine ⟨iz h.1,λi C=> ?_⟩;obtain ⟨f,g,l,m,o,p,q,r,s,t,g2,y,A,D,E⟩:=h.2 i C;have F:w.there L (k * 7 + 5) 2:=eS h.1 YP;by_cases a:i=k
 ·subst a;refine ⟨f,g,l,m,o,u,v,λj x b=> ?_,s,t,g2,y,A,YS,YS⟩;by_cases K:j<5
  ·rw[World.cell?_setCells_out L [u,v] _ w ⟨L,i * 7 + j,none⟩ (λ_ _=> .inl YS)];refine r j x ?_;rcases (by omega:j=0\/j=1\/j=2\/j=3\/j=4)with rfl | rfl | rfl | rfl | rfl<;>exact b
  ·have B:=World.rangeAt_setCells_same w L (i * 7 + 5) [u,v] F;have G:j<7:=(o0.1 b).1;rcases (by omega:j=5\/j=6)with rfl | rfl
   ·exact B 0 x b
   ·exact B 1 x b
 ·refine ⟨f,g,l,m,o,p,q,World.rangeAt_setCells_apart r L _ _ (.inr ?_),s,t,g2,y,A,by simpa[a]using D,by simpa[a]using E⟩;grind
theorem Cr (a:Nat->dM)(b:Nat->C2×C2)(x:C2)(k:Nat):fO a b x (k + 1)=λi=>if i=k then FA a b x k else fO a b x k i:=by funext i;unfold fO;grind
theorem Cs (a:Nat->dM)(b:Nat->C2×C2)(x:C2):fO a b x 0=b:=by rfl
theorem aW (a:x5)(x y:Nat)(m:Mode)(w:World):(store a (G1 J0 x y) m).run Try.prog w=stored Try.prog w a (G1 J0 x y) m:=run_store Try.prog w a _ m R
theorem oa (b a:Nat)(w:World):(q8 86 (J4 (S ⟨b,a,none⟩)) 0).run Try.prog w= .ok (J4 (S ⟨b,a,none⟩)) w:=Zk
theorem kr (b a:Nat)(w:World):(q8 86 (J4 (S ⟨b,a,none⟩)) 1).run Try.prog w= .ok (J4 (S ⟨b,a + 5,none⟩)) w:=Zk
theorem ko (b:Nat)(w:World):(q8 78 (J4 (S ⟨b,0,none⟩)) 1).run Try.prog w= .ok (J4 (S ⟨b,1,none⟩)) w:=Zk
theorem lU (p:x5)(a:Option x5)(n c:Nat)(w:World)(h:w.cell? p=S (.slice a n c)):(x0 76 (.pointer (S p))).run Try.prog w= .ok (.slice a n c) w:=Zk
theorem kx (L n c k:Nat)(w:World)(h:k<n)(a:n<=100):(s7 76 (J3 (S ⟨L,0,none⟩) n c) (J1 J2 k)).run Try.prog w= .ok (J4 (S ⟨L,k * 7,none⟩)) w:=by have b:(k:Int)<(n:Int):=YP;go_simp
section
variable {d:Nat}
theorem tg{p:x5}(a:o.op= .nilCheck x)(b:o.dst=S n)(c:e.eval x= .pointer (S p))(d:V n (.pointer (S p)))(f:C w):
  ec Try.prog o e w (λv=> ∀n,o.dst=S n->V n v) C:=
 .inl ⟨_,w,by simp[o9,a,c],aj b d,f⟩
theorem oe(a:o.op= .extract x 0)(b:o.dst=S d)(c:e.eval x= .tuple #[r,v])(f:V d r)(g:C w):
  ec Try.prog o e w (λv=> ∀d,o.dst=S d->V d v) C:=
 .inl ⟨r,w,by simp[o9,a,c,G0],aj b f,g⟩
theorem og(a:o.op= .extract x 1)(b:o.dst=S d)(c:e.eval x= .tuple #[r,v])(f:V d v)(g:C w):
  ec Try.prog o e w (λv=> ∀d,o.dst=S d->V d v) C:=
 .inl ⟨v,w,by simp[o9,a,c,G0],aj b f,g⟩
theorem fL {y:y8}{u:l9}(a:o.op= .indexAddr t x y)(b:o.dst=S n)(c:e.eval x=u)(d:e.eval y=v)(f:(s7 t u v).run Try.prog w= .ok r w)(g:V n r)(h:C w):
  ec Try.prog o e w (λv=> ∀n,o.dst=S n->V n v) C:=
 .inl ⟨r,w,by simp[o9,a,c,d,f],aj b g,h⟩
theorem EF {y z:y8}{u:l9}(a:o.op= .call {callee:= .value (.func 44),args:= #[x,y,z],argTypes:=p})(d:o.dst=S n)(f:e.eval x=u)(g:e.eval y=v)(h:e.eval z=r)
  (i:n9 Try.prog 44 #[u,v,r] w λb c=> ∃v,b= .returned v/\V n v/\C c):ec Try.prog o e w (λv=> ∀n,o.dst=S n->V n v) C:=by
 refine .inr (.inr ⟨44,#[e.eval x,e.eval y,e.eval z],?_,?_⟩)
 ·simp[o9,a];go_simp
 grind
end
def cV (B L n b N k:Nat)(e:l9)(f g:l9)(a c d:C2):Nat->l9->Prop
 | 27,v=>v= J4 (S ⟨B,0,none⟩)
 | 28,v=>v= J4 (S ⟨B,0,none⟩)
 | 29,v=>v= J4 (S ⟨B,1,none⟩)
 | 30,v=>v= J3 (S ⟨L,0,none⟩) n b
 | 31,v=>v= J1 J2 k
 | 32,v=>v= J4 (S ⟨N,0,none⟩)
 | 33,v=>v=f
 | 34,v=>v= J4 (S ⟨N,5,none⟩)
 | 35,v=>v=g
 | 36,v=>v=e
 | 37,v=> ∃y p q,v= .tuple #[y,.agg #[p,q]]/\aS y a/\aS p c/\aS q d
 | 26,v=> ∃y p q,v= .tuple #[y,.agg #[p,q]]/\aS y a/\aS p c/\aS q d
 | 38,v=>aS v a
 | 39,v=> ∃p q,v= .agg #[p,q]/\aS p c/\aS q d
 | 5,v=>aS v a
 | 40,v=>v= J4 (S ⟨L,k * 7,none⟩)
 | 41,v=>v= J4 (S ⟨L,k * 7 + 5,none⟩)
 | _,_=>True
def cC (W:World)(L n k:Nat)(b:Nat->dM)(c:Nat->C2×C2)(x:C2)(a:Array Bool)(w:World):Prop:=
 W.grownBy w (S L)/\Links w L n b (if a.getD 17 false then fO b c x (k + 1)else fO b c x k)
theorem cC.same(h:cC W L n B d c z f w)(i:Nat)(a:i≠17):cC W L n B d c z (f.setIfInBounds i true) w:=by unfold cC;rw[m7 false a];exact h
theorem nB (B L n D g g' x x':Nat)(G X:C2)(d:Nat->dM)(r:Nat->C2×C2)(w:World)(hB:w.rangeAt B 0 [G1 J0 g g',J3 (some ⟨L,0,none⟩) n D])
  (hg:aS (G1 J0 g g') G)(hx:aS (G1 J0 x x') X)(hL:Links w L n d r)(c4:B≠L)(hn:n<=16)(b3:L<w.heap.size):
  n9 Try.prog 18 #[J4 (some ⟨B,0,none⟩),G1 J0 x x'] w λe w'=> ∃y,e= .returned y/\aS y (sE d r (bm G X) n)/\Links w' L n d (fO d r (bm G X) n)/\w.grownBy w' (some L):=by
 have Hm:=au (mulC hg hx);have c0:w.cell? ⟨B,0,none⟩=some (G1 J0 g g'):=hB 0 _ R;have c1:w.cell? ⟨B,1,none⟩=some (J3 (some ⟨L,0,none⟩) n D):=hB 1 _ R;have H1:=au c1;have HL:=au hL;clear hL hB;go_enter Try.func18,Try.ntmps18
 go_wp2_with fail
 refine (ae Hm _).mono ?_;rintro e w1 ⟨y0,rfl,b4,V⟩;have b5:w1.cell? ⟨B,1,none⟩=some (J3 (some ⟨L,0,none⟩) n D):=by rw[V.cell];exact ae H1
 go_wp2_with fail
 clear Hm;go_loopw [5,21] (λy i wr=> ∃k:Nat,k<=n/\i= J1 J2 k/\aS y (sE d r (bm G X) k)/\Links wr L n d (fO d r (bm G X) k)/\w.grownBy wr (some L))
  (λ_ i _=>n - (intOf i).toNat)
 case atStart=>exact ⟨0,Nat.zero_le _,R,b4,by rw[Cs];exact (ae HL).still V,V.grown _⟩
 case round=>
  obtain ⟨k,hk,rfl,hy,a4,Y⟩:=hrel;by_cases Z:k<n
  ·have c3:(k:Int)<(n:Int):=by omega
   obtain ⟨v0,v1,v2,v3,v4,p,q,l,i0,i1,i2,i3,i4,ip,iq⟩:=a4.2 k Z;have b6:fO d r (bm G X) k k=r k:=by unfold fO;rw[if_neg YP]
   rw[b6]at ip iq;obtain ⟨b0,A,rfl,_⟩:=id i0;obtain ⟨b1,F,rfl,_⟩:=id i1;obtain ⟨b2,H,rfl,_⟩:=id i2;obtain ⟨a1,I,rfl,_⟩:=id i3;obtain ⟨a2,J,rfl,_⟩:=id i4;obtain ⟨s,s',rfl,_⟩:=id ip;obtain ⟨t,t',rfl,_⟩:=id iq;obtain ⟨z,z',rfl,_⟩:=id hy;have l0:wr.cell? ⟨L,k * 7,none⟩=some (G1 J0 b0 A):=l 0 _ R;have l1:=l 1 _ R;have l2:=l 2 _ R;have l3:=l 3 _ R;have l4:=l 4 _ R;have l5:=l 5 _ R;have l6:=l 6 _ R;have Hr:=au (rX b0 A b1 F b2 H a1 I a2 J s s' t t' z z' (d k) (r k).1 (r k).2 (sE d r (bm G X) k) i0 i1 i2 i3 i4 ip iq hy);clear i0 i1 i2 i3 i4 ip iq hy l;have b7:=aW;go_wp2_with fail
   rename_i K hK;have HK:=au hK;clear hK l0 l1 l2 l3 l4 l5 l6 b7 b5;obtain ⟨W,hW⟩: ∃W,W=wr.alloc (o2 #[G1 J0 b0 A,G1 J0 b1 F,G1 J0 b2 H,G1 J0 a1 I,G1 J0 a2 J,G1 J0 s s',G1 J0 t t'] 86):=⟨_,R⟩;rw[<-hW];have b8:=Nat.lt_of_lt_of_le b3 Y.size;have c5:W.heap.size=wr.heap.size + 1:=by rw[hW];simp
   have a5:wr.grownBy W (some L):=by rw[hW];exact m9 _ _ _
   have c6:Links W L n d (fO d r (bm G X) k):=by rw[hW];exact a4.grown (m9 _ _ none) b8 YR
   have m0:W.rangeAt wr.heap.size 0 [G1 J0 b0 A,G1 J0 b1 F,G1 J0 b2 H,G1 J0 a1 I,G1 J0 a2 J]:=by intro j v P;have hj:j<5:=(o0.1 P).1;rw[hW];rcases (by omega:j=0\/j=1\/j=2\/j=3\/j=4)with rfl | rfl | rfl | rfl | rfl<;>(obtain rfl:=Option.some.inj P;go_simp)
   have m1:W.rangeAt wr.heap.size 5 [G1 J0 s s',G1 J0 t t']:=by intro j v P;have hj:j<2:=(o0.1 P).1;rw[hW];rcases (by omega:j=0\/j=1)with rfl | rfl<;>(simp_all)
   have cW:=(bg Y a5).cell (ae H1) (by simp_all);have Q:=au (And.intro Y a5);clear hW;refine dF (cV B L n D wr.heap.size k (G1 J0 z z') (.agg #[G1 J0 b0 A,G1 J0 b1 F,G1 J0 b2 H,G1 J0 a1 I,G1 J0 a2 J]) (.agg #[G1 J0 s s',G1 J0 t t']) (sE d r (bm G X) (k + 1)) (FA d r (bm G X) k).1 (FA d r (bm G X) k).2)
    (cC W L n k d r (bm G X)) Zh Zh Zh 44 Zh R ?_ ?_ ?_
   ·exact ⟨ft _ _,by assumption⟩
   ·intro listed a w2 i o c ho a6 T m;have hi:i<18:=by simpa using (m6.1 ho).1
    have f:=c.world;have a7: ∀o cs,W.rangeAt wr.heap.size o cs->w2.rangeAt wr.heap.size o cs:=λo cs h j v P=>f.1.cell (h j v P) (by intro e;have:=Option.some.inj e;simp only at this;omega);rcases (by omega:i=0\/i=1\/i=2\/i=3\/i=4\/i=5\/i=6\/i=7\/i=8\/i=9\/i=10\/i=11\/i=12\/i=13\/i=14\/i=15\/i=16\/i=17)with rfl | rfl | rfl | rfl | rfl | rfl | rfl | rfl | rfl | rfl | rfl | rfl | rfl | rfl | rfl | rfl | rfl | rfl
    all_goals obtain rfl:=Option.some.inj ho
    ·exact br R R (c.base 0 Zh) R (f.same 0 YP)
    ·exact tg R R (c.slot 0 _ 27 R R (m ⟨0,.data⟩ YR R)) R (f.same 1 YP)
    ·exact bI R R (c.slot 1 _ 28 R R (m ⟨1,.data⟩ YR R)) (ko _ _) R (f.same 2 YP)
    ·exact bY R R (c.slot 2 _ 29 R R (m ⟨2,.data⟩ YR R)) (lU _ _ _ _ _ (f.1.cell cW (by simp_all))) R (f.same 3 YP)
    ·exact br R R (c.base 6 Zh) R (f.same 4 YP)
    ·exact bI R R (c.base 7 Zh) (oa _ _ _) R (f.same 5 YP)
    ·exact bY R R (c.slot 5 _ 32 R R (m ⟨5,.data⟩ YR R)) (r8 w2 wr.heap.size 0 70 _ _ (a7 _ _ m0) Try.underlying70 R kz) R (f.same 6 YP)
    ·exact bI R R (c.base 7 Zh) (kr _ _ _) R (f.same 7 YP)
    ·exact bY R R (c.slot 7 _ 34 R R (m ⟨7,.data⟩ YR R)) (r8 w2 wr.heap.size 5 84 _ _ (a7 _ _ m1) Try.underlying84 R ic) R (f.same 8 YP)
    ·have M:listed.getD 14 false=false:=by
      cases b9:listed.getD 14 false with
      | false=>rfl
      | true=>have h9:=c.closed 14 _ R b9 ⟨9,.phase⟩ YR R;simp_all
     exact br R R (c.pre 14 _ 5 R R M) R (f.same 9 YP)
    ·have M:listed.getD 17 false=false:=by
      cases a0:listed.getD 17 false with
      | false=>rfl
      | true=>
       have h9:=c.closed 17 _ R a0 ⟨10,.phase⟩ YR R;rw[o8]at h9 T;cases hh:listed[10]? with
       | none=>rw[hh]at h9;simp at h9
       | some b=>rw[hh]at h9 T;simp at h9 T;rw[h9]at T;cases T
     refine EF R R (c.slot 6 _ 33 R R (m ⟨6,.data⟩ YR R)) (c.slot 8 _ 35 R R (m ⟨8,.data⟩ YR R)) (c.slot 9 _ 36 R R (m ⟨9,.data⟩ YR R)) ?_;refine (ae Hr w2).mono ?_;rintro e w3 ⟨y,u,v,rfl,hy,hu,P,a8⟩;refine ⟨_,R,⟨y,u,v,R,hy,hu,P⟩,?_⟩;unfold cC;rw[getD_set_ne false YP];have N:L<w2.heap.size:=by have:=f.1.size;omega
     exact ⟨bg f.1 (di a8 _),f.2.below a8 N⟩
    ·obtain ⟨y,u,v,O,k2,k3,k4⟩:=c.slot 10 _ 37 R R (m ⟨10,.data⟩ YR R);exact br R R O ⟨y,u,v,R,k2,k3,k4⟩ (f.same 11 YP)
    ·obtain ⟨y,u,v,O,k2,k3,k4⟩:=c.slot 11 _ 26 R R (m ⟨11,.data⟩ YR R);exact oe R R O k2 (f.same 12 YP)
    ·obtain ⟨y,u,v,O,k2,k3,k4⟩:=c.slot 11 _ 26 R R (m ⟨11,.data⟩ YR R);exact og R R O ⟨u,v,R,k3,k4⟩ (f.same 13 YP)
    ·have O:=c.slot 12 _ 38 R R (m ⟨12,.data⟩ YR R);exact jD R R R O (f.same 14 YP)
    ·exact fL R R (c.slot 3 _ 30 R R (m ⟨3,.data⟩ YR R)) (c.slot 4 _ 31 R R (m ⟨4,.data⟩ YR R)) (kx _ _ _ _ _ Z YP) R (f.same 15 YP)
    ·exact bI R R (c.slot 15 _ 40 R R (m ⟨15,.data⟩ YR R)) (kr _ _ _) R (f.same 16 YP)
    ·obtain ⟨u,v,O,k2,k3⟩:=c.slot 13 _ 39 R R (m ⟨13,.data⟩ YR R);have M:listed.getD 17 false=false:=by
      rw[o8]at T ⊢;have:17<listed.size:=by rw[a6];decide
      rw[p5 this]at T ⊢;exact T
     have a3:=f.2;rw[M]at a3;have a9:=a3.set Z k2 k3;refine kD R R (c.slot 16 _ 41 R R (m ⟨16,.data⟩ YR R)) O ic (by simp[k2.one,k3.one]) (eS a3.1 YT) ⟨bV f.1,?_⟩;have a0:(listed.setIfInBounds 17 true).getD 17 false=true:=by
      have:17<listed.size:=by rw[a6];decide
      simp[this]
     rw[a0,if_pos R,Cr];exact a9
   ·intro listed a w2 c C;have k5:=c.slot 14 _ 5 R R (C 14 YQ);have E:=gZ a 44 c.size;rw[c.defers]at E;replace E:a=⟨#[a.eval (.tmp 0),a.eval (.tmp 1),a.eval (.tmp 2),a.eval (.tmp 3),a.eval (.tmp 4),a.eval (.tmp 5),a.eval (.tmp 6),a.eval (.tmp 7),a.eval (.tmp 8),a.eval (.tmp 9),a.eval (.tmp 10),a.eval (.tmp 11),a.eval (.tmp 12),a.eval (.tmp 13),a.eval (.tmp 14),a.eval (.tmp 15),a.eval (.tmp 16),a.eval (.tmp 17),a.eval (.tmp 18),a.eval (.tmp 19),a.eval (.tmp 20),a.eval (.tmp 21),a.eval (.tmp 22),a.eval (.tmp 23),a.eval (.tmp 24),a.eval (.tmp 25),a.eval (.tmp 26),a.eval (.tmp 27),a.eval (.tmp 28),a.eval (.tmp 29),a.eval (.tmp 30),a.eval (.tmp 31),a.eval (.tmp 32),a.eval (.tmp 33),a.eval (.tmp 34),a.eval (.tmp 35),a.eval (.tmp 36),a.eval (.tmp 37),a.eval (.tmp 38),a.eval (.tmp 39),a.eval (.tmp 40),a.eval (.tmp 41),a.eval (.tmp 42),a.eval (.tmp 43)],_⟩:=E;rw[c.base 0 Zh,c.base 1 Zh,c.base 2 Zh,c.base 3 Zh,c.base 4 Zh,c.base 6 Zh,c.base 7 Zh,c.base 8 Zh,c.base 9 Zh,c.base 10 Zh,c.base 11 Zh,c.base 12 Zh,c.base 13 Zh,c.base 14 Zh,c.base 15 Zh,c.base 16 Zh,c.base 17 Zh,c.base 18 Zh,c.base 19 Zh,c.base 20 Zh,c.base 21 Zh,c.base 22 Zh,c.base 23 Zh,c.base 24 Zh,c.base 25 Zh,c.base 42 Zh,c.base 43 Zh]at E;have hw:=c.world;clear c;generalize a.eval (.tmp 5)=y5 at E k5;generalize a.eval (.tmp 26)=c7 at E;generalize a.eval (.tmp 27)=c9 at E;generalize a.eval (.tmp 28)=d0 at E;generalize a.eval (.tmp 29)=d1 at E;generalize a.eval (.tmp 30)=d2 at E;generalize a.eval (.tmp 31)=d3 at E;generalize a.eval (.tmp 32)=d4 at E;generalize a.eval (.tmp 33)=d5 at E;generalize a.eval (.tmp 34)=d6 at E;generalize a.eval (.tmp 35)=d7 at E;generalize a.eval (.tmp 36)=d8 at E;generalize a.eval (.tmp 37)=d9 at E;generalize a.eval (.tmp 38)=e0 at E;generalize a.eval (.tmp 39)=e1 at E;generalize a.eval (.tmp 40)=e2 at E;generalize a.eval (.tmp 41)=e3 at E;simp[v9]at E;subst E;obtain ⟨c2,N⟩:=hw;rw[C 17 YQ,if_pos R]at N;refine ae HK _ _ ?_;clear HK;clear C;go_wp2
    go_roundw
    case rel=>exact ⟨k + 1,YP,Zl,k5,N,bg (bg (ae Q).1 (ae Q).2) c2⟩
    case measure=>simp[intOf];omega
  ·have:k=n:=by omega
   subst this;go_wp2
   go_ret
   simp_all
def bj (w:World)(v:l9)(m:Nat)(X:Nat->C2):Prop:=
 ∃d c,v= .slice d m c/\ ∀j,j<m-> ∃b a u,d=S ⟨b,a,none⟩/\b<w.heap.size/\w.cell? ⟨b,a + j,none⟩=S u/\aS u (X j)
def oT (G:C2)(n:Nat)(a:Nat->dM)(b:Nat->C2×C2)(X:Nat->C2):Nat->(Nat->C2×C2)
 | 0=>b
 | k + 1=>fO a (oT G n a b X k) (bm G (X k)) n
def hU (G:C2)(n:Nat)(a:Nat->dM)(b:Nat->C2×C2)(X:Nat->C2)(k:Nat):C2:=sE a (oT G n a b X k) (bm G (X k)) n
theorem fY:(Try.prog.info? 26).map (λi=>(i.zero,i.size,i.bytes))=S (S (G1 J0 0 0),1,16):=Zh
theorem gn{a b:x5}(h:a≠b):(w.setCell a v).cell? b=w.cell? b:=World.cell?_setCell_other _ _ _ _ h
theorem iV{a:x5}{u:l9}(h:w.cell? a=S u):(w.setCell a v).cell? a=S v:=World.cell?_setCell_same _ _ _ h
theorem dS(e:w.ownsRow B t Y (J3 (S ⟨L,0,none⟩) n s) n h):w.there L 0 (n * Y)/\L<w.heap.size:=by
 rcases e.2 with ⟨b,_⟩ | ⟨g,c,a,b,_,d,f,_,i,_⟩
 ·cases b
 ·obtain ⟨rfl,rfl⟩:L=g/\s=c:=by simpa using b
  refine ⟨λj k=> ?_,(m6.1 d).1⟩;rw[C1 w L _ a t (0,0) d,C8 w L _ a t d];have:n * Y<=s * Y:=B8 _ f;grind
theorem bw(h:w.there B L n)(c:w.grownBy W m)(d:B<w.heap.size)(a:S B≠m):W.there B L n:=λj e=>by have b:=c.block B d a;rw[o4 (w:=w) b,z2 (w:=w) b];exact h j e
theorem lB(h:W.grownBy w m){a:x5}(d:W.heap.size<=a.block)(v:l9):W.grownBy (w.setCell a v) m:=
 ⟨h.os,h.tape,h.output,by simpa[C7]using h.size,λk b c=>by rw[D5 _ _ _ _ YP];exact h.block k b c⟩
theorem dK(h:w.there B L n)(a:x5)(v:l9):(w.setCell a v).there B L n:=λj b=>by obtain ⟨u,c⟩:=o6.1 (h j b).1;obtain ⟨e,d⟩:=cell?_setCell_some (p:=a) (x:=v) c;exact ⟨YS,by rw[World.frozen?_setCell];exact (h j b).2⟩
theorem Links.setCell {w:World}{L n:Nat}{b:Nat->dM}{c:Nat->C2×C2}(h:Links w L n b c){a:x5}(s:a.block≠L)(v:l9):Links (w.setCell a v) L n b c:=by refine ⟨dK h.1 a v,λi d=> ?_⟩;obtain ⟨e,f,g,k,l,p,q,m,o⟩:=h.2 i d;exact ⟨e,f,g,k,l,p,q,λj x r=>by rw[gn YS];exact m j x r,o⟩
theorem Dl (B L n t g T m:Nat)(v:l9)(G:C2)(X:Nat->C2)(a:Nat->dM)(D:Nat->C2×C2)(w:World)(hB:w.rangeAt B 0 [G1 J0 g T,J3 (S ⟨L,0,none⟩) n t])
  (hg:aS (G1 J0 g T) G)(W:bj w v m X)(hm:m<=8796093022208)(E: ∀b z,(∃mm c,v= J3 (S ⟨b,z,none⟩) mm c)->0<m->b≠L)(hL:Links w L n a D)(Y:B≠L)(hn:n<=16)(Z:L<w.heap.size):
  n9 Try.prog 15 #[J4 (S ⟨B,0,none⟩),v] w λe V=> ∃A,e= .returned (J3 (S ⟨A,0,none⟩) m m)/\w.heap.size<=A/\A<V.heap.size/\(∀j,j<m-> ∃u,V.cell? ⟨A,j,none⟩=S u/\aS u (hU G n a D X j))/\
   Links V L n a (oT G n a D X m)/\w.grownBy V (S L):=by
 obtain ⟨ad,c,rfl,hc⟩:=W;obtain ⟨i0,hi,F,H,I⟩:=B4 fY;have Hc:=au hc;have HL:=au hL;have HB:=au hB;have a0:=au E;clear hc hL hB E;go_enter Try.func15,Try.ntmps15
 go_wp2_with (first
  | (refine wpList_make_full _ rfl _ _ 24 rfl w.heap.size 26 i0 (G1 J0 0 0) 1 Try.underlying24 hi F H .i64 .i64 _ _ m rfl rfl rfl rfl (by rw[I];omega) Zj (Nat.le_refl _) ?_;intro w1 s h))
 obtain ⟨J,a1⟩:=dS s;rw[Nat.mul_one]at J;clear s hi F H I;go_loopw [15] (λi wr=> ∃k:Nat,k<=m/\i= J1 J2 k/\Links wr L n a (oT G n a D X k)/\w.grownBy wr (S L)/\w.heap.size<wr.heap.size/\wr.there w.heap.size 0 m/\ ∀j,j<k-> ∃u,wr.cell? ⟨w.heap.size,j,none⟩=S u/\aS u (hU G n a D X j))
  (λi _=>m - (intOf i).toNat)
 case atStart=>exact ⟨0,Nat.zero_le _,R,(ae HL).grown h Z YR,⟨h.os,h.tape,h.output,h.size,λk hk _=>h.block k hk YR⟩,a1,J,λj hj=>YP⟩
 case round=>
  obtain ⟨k,hk,rfl,p,l,a2,K,f⟩:=hrel;by_cases C:k<m
  ·have a7:(k:Int)<(m:Int):=by omega
   obtain ⟨b,z,u,rfl,hb,M,hu⟩:=ae Hc k C;obtain ⟨x,x',rfl,_⟩:=id hu;have a8:=ae a0 b z ⟨_,_,R⟩ YP;have a9:=l.cell M YS;have N:wr.rangeAt B 0 [G1 J0 g T,J3 (S ⟨L,0,none⟩) n t]:=λj v W=>l.cell (ae HB j v W) YS;have Hs:=au (nB B L n t g T x x' G (X k) a (oT G n a D X k) wr N hg hu p Y hn YP);clear N;have Ho:=au (And.intro f (And.intro l p));have Ht:=au K;clear f l p K M hu;go_wp2_with fail
   refine (ae Hs).mono ?_;rintro e w2 ⟨y,rfl,O,q,d⟩;obtain ⟨r,r',rfl,_⟩:=id O;have b0:w.heap.size<w2.heap.size:=by have:=d.size;omega
   have P:S w.heap.size≠S L:=by intro e;have:=m5 e;omega
   have o:=bw (ae Ht) d a2 P;have Q:(w2.cell? ⟨w.heap.size,k,none⟩).isSome=true:=by have:=(o k C).1;rwa[Nat.zero_add]at this
   have b1:w2.frozen? ⟨w.heap.size,k,none⟩=false:=by have:=(o k C).2;rwa[Nat.zero_add]at this
   obtain ⟨uo,a3⟩:=o6.1 Q;have H2:=au (And.intro O (And.intro q (And.intro d o)));clear O q d o Q;have b2:=aW;go_wp2
   go_roundw
   case rel=>
    obtain ⟨f,l,p⟩:=ae Ho;obtain ⟨O,q,d,o⟩:=ae H2;refine ⟨k + 1,YP,Zl,q.setCell YS _,lB (bg l d) (Nat.le_refl _) _,by simp_all,dK o _ _,λj hj=> ?_⟩;by_cases a4:j=k
    ·subst a4;exact ⟨_,iV a3,O⟩
    ·obtain ⟨v,a5,a6⟩:=f j YP;refine ⟨v,?_,a6⟩;rw[gn YR];exact d.cell a5 P
   case measure=>simp[intOf];omega
  ·have:k=m:=by omega
   subst this;go_wp2
   go_ret
   simp_all
def cY (u:l9):Prop:= ∃r i,u= G1 J0 r i/\r<18446744073709551616/\i<18446744073709551616/\max (cls r) (cls i)<3
theorem od (A a m c:Nat)(p:m<=1000000)(w:World)(h: ∀j,j<m-> ∃u,w.cell? ⟨A,a + j,none⟩=S u/\cY u):
  n9 Try.prog 51 #[J3 (S ⟨A,a,none⟩) m c] w λe d=>e= .returned (.bool true)/\d=w:=by
 have H:=au h;clear h;go_enter Try.func51,Try.ntmps51
 go_wp2_with fail
 go_loopw [7] (λi wr=> ∃k:Nat,k<=m/\i= J1 J2 k/\wr=w) (λi _=>m - (intOf i).toNat)
 case atStart=>exact ⟨0,Nat.zero_le _,R,R⟩
 case round=>
  obtain ⟨k,q,rfl,rfl⟩:=hrel;by_cases b:k<m
  ·have f:(k:Int)<(m:Int):=by omega
   obtain ⟨u,s,r,i,rfl,g,l,n⟩:=ae H k b;have o:=au (pK r i g l n);clear g l n;go_wp2_with fail
   refine (ae o _).mono ?_;rintro e d ⟨rfl,rfl⟩;go_wp2
   go_roundw
   case rel=>exact ⟨k + 1,YP,Zl,trivial⟩
   case measure=>simp[intOf];omega
  ·have:k=m:=by omega
   subst this;go_wp2
   go_ret
   simp
theorem AT (g a h b i c k d l f:Nat)(w:World):
  n9 Try.prog 52 #[.agg #[G1 J0 g a,G1 J0 h b,G1 J0 i c,G1 J0 k d,G1 J0 l f]] w
   λe m=> ∃A,e= .returned (J3 (S ⟨A,0,none⟩) 5 5)/\m.rangeAt A 0 [G1 J0 g a,G1 J0 h b,G1 J0 i c,G1 J0 k d,G1 J0 l f]/\Below w.heap.size w m:=by
 go_enter Try.func52,Try.ntmps52
 go_wp2
 go_ret
 refine ⟨w.heap.size + 1,R,?_,?_⟩
 ·intro j v n;simp_all
 ·exact ((o3 _ _).alloc (n7 _) _).alloc YR _
def bn (w:World)(v:l9)(n:Nat)(a:Nat->dM):Prop:=
 ∃j c,v= .slice j n c/\ ∀i,i<n-> ∃b d e f g h,j=S ⟨b,0,none⟩/\b<w.heap.size/\w.rangeAt b (i * 5) [d,e,f,g,h]/\
  cY d/\cY e/\cY f/\cY g/\cY h/\aS d (a i).b0/\aS e (a i).b1/\aS f (a i).b2/\aS g (a i).a1/\aS h (a i).a2
theorem uH (g r n:Nat)(v:l9)(M:Nat->dM)(w:World)(hg:cY (G1 J0 g r))(hv:bn w v n M)(hn:n<=16):
  n9 Try.prog 28 #[.agg #[G1 J0 g r,v]] w λe N=>e= .returned (.bool true)/\Below w.heap.size w N:=by
 obtain ⟨ad,c,rfl,hs⟩:=hv;have H:=au hs;have Hg:=au hg;clear hs hg;go_enter Try.func28,Try.ntmps28
 go_wp2_with fail
 obtain ⟨W,s⟩: ∃W,W=w.alloc (o2 #[G1 J0 g r,.slice ad n c] 29):=⟨_,R⟩;rw[<-s];have t:Below w.heap.size w W:=by rw[s];exact (Below.refl _ _).alloc (Nat.le_refl _) _
 have a4:W.heap.size=w.heap.size + 1:=by rw[s];simp
 have O:W.cell? ⟨w.heap.size,0,none⟩=S (G1 J0 g r):=by rw[s];go_simp
 clear s;go_loopw [8] (λi wr=> ∃k:Nat,k<=n/\i= J1 J2 k/\Below (w.heap.size + 1) W wr) (λi _=>n - (intOf i).toNat)
 case atStart=>exact ⟨0,Nat.zero_le _,R,Below.refl _ _⟩
 case round=>
  obtain ⟨k,hk,rfl,a⟩:=hrel;by_cases P:k<n
  ·have a3:(k:Int)<(n:Int):=by omega
   obtain ⟨b,v0,v1,v2,v3,v4,rfl,hb,u,y,z,B,C,D,_⟩:=ae H k P;obtain ⟨K,d,rfl,_⟩:=id y;obtain ⟨Q,h,rfl,_⟩:=id z;obtain ⟨T,l,rfl,_⟩:=id B;obtain ⟨V,m,rfl,_⟩:=id C;obtain ⟨X,o,rfl,_⟩:=id D;have q: ∀j x,[G1 .f64 K d,G1 J0 Q h,G1 J0 T l,G1 J0 V m,G1 J0 X o][j]? =S x->wr.cell? ⟨b,k * 5 + j,none⟩=S x:=λj x hx=>by have h1:=u j x hx;rw[a.cell YS,t.cell (by exact hb)];exact h1
   have l0:wr.cell? ⟨b,k * 5,none⟩=S (G1 J0 K d):=q 0 _ R;have l1:=q 1 _ R;have l2:=q 2 _ R;have l3:=q 3 _ R;have l4:=q 4 _ R;have Hc:=au (AT K d Q h T l V m X o);have Hf:=au (And.intro y (And.intro z (And.intro B (And.intro C D))));have Y:=au a;have E:w.heap.size + 1<=wr.heap.size:=by have:=a.size;omega
   clear u q y z B C D a;have a5:=aW;go_wp2_with fail
   refine (ae Hc _).mono ?_;rintro e L ⟨A,rfl,F,G⟩;have f: ∀p,p=L-> ∀A,L.rangeAt A 0 [G1 J0 K d,G1 J0 Q h,G1 J0 T l,G1 J0 V m,G1 J0 X o]->n9 Try.prog 51 #[J3 (S ⟨A,0,none⟩) 5 5] p λe N=>e= .returned (.bool true)/\N=p:=by
    intro p Z A I;subst Z;refine od A 0 5 5 YP p ?_;intro j hj;obtain ⟨y,z,B,C,D⟩:=ae Hf;rcases (by omega:j=0\/j=1\/j=2\/j=3\/j=4)with rfl | rfl | rfl | rfl | rfl
    ·exact ⟨_,I 0 _ R,y⟩
    ·exact ⟨_,I 1 _ R,z⟩
    ·exact ⟨_,I 2 _ R,B⟩
    ·exact ⟨_,I 3 _ R,C⟩
    ·exact ⟨_,I 4 _ R,D⟩
   have Hn:=au (f L R A F);have J:Below (w.heap.size + 1) wr L:=by
    refine Below.trans ?_ (G.mono ?_)
    ·exact (Below.refl _ wr).alloc E _
    ·simp;omega
   have a0:=au ((ae Y).trans J);clear J;clear f F G;go_wp2_with fail
   refine (ae Hn).mono ?_;rintro e p ⟨rfl,rfl⟩;go_wp2
   go_roundw
   case rel=>exact ⟨k + 1,YP,Zl,ae a0⟩
   case measure=>simp[intOf];omega
  ·have:k=n:=by omega
   subst this;have a6:wr.cell? ⟨w.heap.size,0,none⟩=S (G1 J0 g r):=by rw[a.cell YR];exact O
   have Y:=au a;have E:w.heap.size + 1<=wr.heap.size:=by have:=a.size;omega
   clear a;go_wp2_with fail
   refine (od wr.heap.size 0 1 1 YP _ ?_).mono ?_
   ·intro j hj;obtain rfl:j=0:=YP;exact ⟨_,Zk,ae Hg⟩
   rintro e p ⟨rfl,rfl⟩;go_wp2
   go_ret
   exact ⟨R,t.trans (((ae Y).mono YP).trans ((Below.refl _ wr).alloc YP _))⟩
def c0:l9:= G1 J0 0 0
def z0:C2:=(lf 0,lf 0)
theorem Jv:aS c0 z0:=aS.of 0 0 YP YP
def aI:Nat->C2×C2:=λ_=>(z0,z0)
theorem xW:(Try.prog.info? 86).map (λi=>(i.zero,i.size,i.bytes))=S (S (.agg #[c0,c0,c0,c0,c0,c0,c0]),7,112):=Zh
theorem Eu (m j:Nat)(a:j<m):(B1 (C4 #[c0,c0,c0,c0,c0,c0,c0]).cells m)[j]? =S c0:=by
 have b:j % 7<7:=YP;simp only[B1,Array.getElem?_map,Array.getElem?_range,a,if_true,x9,Value.cells];congr 1
 have e:(#[c0,c0,c0,c0,c0,c0,c0]:Array l9).size=7:=rfl;rw[e];generalize j % 7=r at b;rcases (by omega:r=0\/r=1\/r=2\/r=3\/r=4\/r=5\/r=6)with rfl | rfl | rfl | rfl | rfl | rfl | rfl<;>rfl
theorem yh (n:Nat)(f:n<=16)(w:World):(Instr.makeSlice 76 (J1 J2 n) (J1 J2 n)).run Try.prog w= .ok (J3 (S ⟨w.heap.size,0,none⟩) n n) (w.alloc (.cells (B1 (C4 #[c0,c0,c0,c0,c0,c0,c0]).cells (n * 7)) 86)):=by obtain ⟨c,d,a,e,b⟩:=B4 xW;have h:=run_make (P:=Try.prog) w 76 86 c _ Try.underlying76 d a .i64 .i64 (n:Int) (n:Int) YP YP (by rw[b];omega) YP;grind
theorem xn (r i:Nat)(a:Option x5)(n c:Nat)(w:World):(G9 78 #[(0,G1 J0 r i),(1,.slice a n c)]).run Try.prog w= .ok (.agg #[G1 J0 r i,.slice a n c]) w:=Zk
theorem Db (r i:Nat)(a:Option x5)(n c:Nat)(w:World):(Instr.box 78 (.agg #[G1 J0 r i,.slice a n c])).run Try.prog w= .ok (J4 (S ⟨w.heap.size,0,none⟩)) (w.alloc (.cells #[G1 J0 r i,.slice a n c] 78)):=Zk
theorem uW (b:Nat)(w:World):(q8 29 (J4 (S ⟨b,0,none⟩)) 0).run Try.prog w= .ok (J4 (S ⟨b,0,none⟩)) w:=Zk
theorem kq (b:Nat)(w:World):(q8 29 (J4 (S ⟨b,0,none⟩)) 1).run Try.prog w= .ok (J4 (S ⟨b,1,none⟩)) w:=Zk
theorem rL (p:x5)(a:Option x5)(n c:Nat)(w:World)(h:w.cell? p=S (.slice a n c)):(x0 27 (.pointer (S p))).run Try.prog w= .ok (.slice a n c) w:=Zk
section
variable {d:Nat}
theorem ti{w':World}(a:(o9 e.eval o).run Try.prog w= .ok (.value r) w')(b:o.dst=S d)(c:V d r)(f:C w'):
  ec Try.prog o e w (λv=> ∀d,o.dst=S d->V d v) C:= .inl ⟨r,w',a,aj b c,f⟩
end
def fo (w:World)(L n k:Nat)(a:Nat->dM):Prop:=
 w.there L 0 (n * 7)/\ ∀i,i<n-> ∃b c d e f,w.rangeAt L (i * 7) [b,c,d,e,f,c0,c0]/\(i<k->aS b (a i).b0/\aS c (a i).b1/\aS d (a i).b2/\aS e (a i).a1/\aS f (a i).a2)
theorem fo.done(h:fo w L n n d):Links w L n d aI:=
 ⟨h.1,λi a=>by obtain ⟨b,c,e,f,g,j,k⟩:=h.2 i a;obtain ⟨l,m,o,p,q⟩:=k a;exact ⟨b,c,e,f,g,c0,c0,j,l,m,o,p,q,Jv,Jv⟩⟩
theorem fo.start(h:w.heap[L]? =S (.cells (B1 (C4 #[c0,c0,c0,c0,c0,c0,c0]).cells (n * 7)) 86 (0,0))):fo w L n 0 d:=by
 have b: ∀j,j<n * 7->w.cell? ⟨L,j,none⟩=S c0:=λj a=>by rw[C1 w L j _ _ _ h];exact Eu _ _ a
 refine ⟨λj a=> ?_,λi e=>⟨c0,c0,c0,c0,c0,λj v c=> ?_,λh=>YP⟩⟩
 ·rw[z8,b j a,C8 w L j _ _ h];simp
 ·have a:j<7:=(o0.1 c).1;rw[b (i * 7 + j) YP,<-c];rcases (by omega:j=0\/j=1\/j=2\/j=3\/j=4\/j=5\/j=6)with rfl | rfl | rfl | rfl | rfl | rfl | rfl<;>rfl
theorem fo.grown{row:Option Nat}(h:fo w L n B d)(b:w.grownBy W row)(c:L<w.heap.size)(a:S L≠row):fo W L n B d:=by have e:=b.block L c a;refine ⟨bw h.1 b c a,λi f=> ?_⟩;obtain ⟨g,k,l,m,o,p,q⟩:=h.2 i f;exact ⟨g,k,l,m,o,λj v r=>by rw[o4 (w:=w) e];exact p j v r,q⟩
theorem fo.set{k:Nat}(h:fo w L n k d)(F:k<n){a b c:Value}(l:aS v (d k).b0)(m:aS r (d k).b1)(o:aS a (d k).b2)(p:aS b (d k).a1)(q:aS c (d k).a2):
  fo (w.setCells L (k * 7) [v,r,a,b,c]) L n (k + 1) d:=by
 refine ⟨iz h.1,λi s=> ?_⟩;obtain ⟨t,u,y,z,A,g,B⟩:=h.2 i s;have C:w.there L (k * 7) 5:=eS h.1 YP;by_cases e:i=k
 ·subst e;refine ⟨v,r,a,b,c,λj x f=> ?_,λ_=>⟨l,m,o,p,q⟩⟩;have D:j<7:=(o0.1 f).1;by_cases G:j<5
  ·have E:=World.rangeAt_setCells_same w L (i * 7) [v,r,a,b,c] C;refine E j x ?_;rcases (by omega:j=0\/j=1\/j=2\/j=3\/j=4)with rfl | rfl | rfl | rfl | rfl<;>exact f
  ·rw[World.cell?_setCells_out L [v,r,a,b,c] _ w ⟨L,i * 7 + j,none⟩ (λ_ _=> .inr YS)];refine g j x ?_;rcases (by omega:j=5\/j=6)with rfl | rfl<;>exact f
 ·refine ⟨t,u,y,z,A,World.rangeAt_setCells_apart g L _ _ (.inr ?_),λh=>B YP⟩;grind
def nV (F N n c:Nat)(g:l9)(a:Option x5):Nat->l9->Prop
 | 16,v=>v= J4 (S ⟨F,0,none⟩)
 | 17,v=>v=g
 | 18,v=>v= J4 (S ⟨F,1,none⟩)
 | 19,v=>v= .slice a n c
 | 20,v=>v= J1 J2 n
 | 21,v=>v= J3 (S ⟨N,0,none⟩) n n
 | 22,v=>v= .agg #[g,J3 (S ⟨N,0,none⟩) n n]
 | 23,v=>v= J4 (S ⟨N + 1,0,none⟩)
 | 4,v=>v= J4 (S ⟨N + 1,0,none⟩)
 | _,_=>True
def nC (W:World)(n:Nat)(g:l9)(a:Array Bool)(w:World):Prop:=
 W.grownBy w none/\(a.getD 5 false=false->w.heap.size=W.heap.size)/\(a.getD 5 false=true->a.getD 7 false=false->w.heap.size=W.heap.size + 1)/\(a.getD 7 false=true->w.heap.size=W.heap.size + 2)/\
 (a.getD 5 false=true->w.heap[W.heap.size]? =S (.cells (B1 (C4 #[c0,c0,c0,c0,c0,c0,c0]).cells (n * 7)) 86 (0,0)))/\
 (a.getD 7 false=true->w.heap[W.heap.size + 1]? =S (.cells #[g,J3 (S ⟨W.heap.size,0,none⟩) n n] 78 (0,0)))
theorem nC.same(h:nC W n v f w)(i:Nat)(a:i≠5)(b:i≠7):nC W n v (f.setIfInBounds i true) w:=by unfold nC;rw[m7 false a,m7 false b];exact h
def SP (B L n k:Nat)(a:l9):Nat->l9->Prop
 | 32,v=>v= J4 (S ⟨B,0,none⟩)
 | 33,v=>v= J4 (S ⟨B,0,none⟩)
 | 34,v=>v= J4 (S ⟨B,1,none⟩)
 | 35,v=>v= J3 (S ⟨L,0,none⟩) n n
 | 36,v=>v= J1 J2 k
 | 37,v=>v=a
 | 38,v=>v= J4 (S ⟨L,k * 7,none⟩)
 | 39,v=>v= J4 (S ⟨L,k * 7,none⟩)
 | _,_=>True
def OO (W:World)(L n k:Nat)(b:Nat->dM)(a:Array Bool)(w:World):Prop:=
 W.grownBy w (S L)/\fo w L n (if a.getD 8 false then k + 1 else k) b
theorem OO.same(h:OO W L n B d f w)(i:Nat)(a:i≠8):OO W L n B d (f.setIfInBounds i true) w:=by unfold OO;rw[m7 false a];exact h
theorem fJ(h:w.grownBy W none):Below w.heap.size w W:=⟨h.os,h.tape,h.output,h.size,λk a=>h.block k a YR⟩
theorem cz{i:Nat}(a:f.getD i true=false)(b:f.size=n)(c:i<n):f.getD i false=false:=by grind
theorem bS{i:Nat}(a:f.size=n)(b:i<n):(f.setIfInBounds i true).getD i false=true:=by simp_all
theorem ec.lv{V:l9->Prop}(h:ec P o e w V (λa=> ∀v,D v a)):bD P o e w (λv a=>V v/\D v a):=by
 rcases h with ⟨v,a,b,c,d⟩ | ⟨a,b,c,d⟩ | ⟨f,args,b,g⟩
 ·exact .inl ⟨v,a,b,c,d v⟩
 ·exact .inr (.inl ⟨a,b,c,d _⟩)
 ·exact .inr (.inr ⟨f,args,b,g.mono λk i ⟨v,j,c,d⟩=>⟨v,j,c,d v⟩⟩)
theorem ez.fK{C:Array Bool->I2->World->Prop}{a:I2}(h:ez g e V C f a w)(m:f.size=n)(p:B<n)(q:f.getD B true=false)
  (j:Nat)(c:g[j]? =S o)(b:Edge)(d:b∈o.after)(i:o7 .any b=true)(k:b.on=B):f.getD j false=false:=by
 cases l:f.getD j false with
 | false=>rfl
 | true=>have r:=h.closed j o c l b d i;grind
theorem qS (p:x5)(v:l9)(w:World)(h:w.cell? p=S v):(x0 27 (.pointer (S p))).run Try.prog w= .ok v w:=Zk
theorem fD(h:B≠n):(e.put (S n) v).eval (.tmp B)=e.eval (.tmp B):=G6 YS
theorem qh(h:n<e.tmps.size):(e.put (S n) v).eval (.tmp n)=v:=by simp[F3,v9,h]
theorem uL (g z n:Nat)(v:l9)(y:Nat->dM)(w:World)(hg:cY (G1 J0 g z))(O:bn w v n y)(hn:n<=16):
  n9 Try.prog 9 #[.agg #[G1 J0 g z,v]] w λe w'=> ∃B L,e= .returned (.tuple #[J4 (S ⟨B,0,none⟩),J1 J2 0])/\B≠L/\w.heap.size<=B/\w.heap.size<=L/\B<w'.heap.size/\L<w'.heap.size/\
   w'.rangeAt B 0 [G1 J0 g z,J3 (S ⟨L,0,none⟩) n n]/\Links w' L n y aI/\Below w.heap.size w w':=by
 obtain ⟨ad,c,rfl,hs⟩:=id O;have H:=au hs;have Hv:=au O;have Hg:=au hg;clear hs hg O;go_enter Try.func9,Try.ntmps9
 go_wp2_with fail
 have D:Below w.heap.size w (w.alloc (o2 #[G1 J0 g z,.slice ad n c] 29)):=(o3 _ _).alloc (Nat.le_refl _) _;refine (uH g z n (.slice ad n c) y _ (ae Hg) ?_ hn).mono ?_
 ·obtain ⟨c1,c',e1,h1⟩:=ae Hv;refine ⟨c1,c',e1,λi hi=> ?_⟩;obtain ⟨b,u0,u1,u2,u3,u4,e2,hb,hr,hh⟩:=h1 i hi;exact ⟨b,u0,u1,u2,u3,u4,e2,YT,λj x P=>by rw[D.cell (by exact hb)];exact hr j x P,hh⟩
 rintro e W ⟨rfl,F⟩;have c2:W.cell? ⟨w.heap.size,0,none⟩=S (G1 J0 g z):=by rw[F.cell YR];go_simp
 have a7:W.cell? ⟨w.heap.size,1,none⟩=S (.slice ad n c):=by rw[F.cell YR];go_simp
 have a8:=D.trans (F.mono YR);have d2:w.heap.size<W.heap.size:=by have:=F.size;simp at this;omega
 clear D F;have a9:=au a8;clear a8;go_wp2_with fail
 rename_i K hK;have HK:=au hK;clear hK;refine dF (nV w.heap.size W.heap.size n c (G1 J0 g z) ad) (nC W n (G1 J0 g z)) Zh Zh Zh 42 Zh R ?_ ?_ ?_
 ·exact ⟨ft _ _,λ_=>rfl,λh=>by simp at h,λh=>by simp at h,λh=>by simp at h,λh=>by simp at h⟩
 ·intro listed a C i o f ho Q hl u;have hi:i<9:=by simpa using (m6.1 ho).1
  have m:=f.world;have G: ∀p v,W.cell? p=S v->C.cell? p=S v:=λp v h=>m.1.cell h YR;have q:listed.size=9:=Q;rcases (by omega:i=0\/i=1\/i=2\/i=3\/i=4\/i=5\/i=6\/i=7\/i=8)with rfl | rfl | rfl | rfl | rfl | rfl | rfl | rfl | rfl
  all_goals obtain rfl:=Option.some.inj ho
  ·exact bI R R (f.base 1 Zh) (uW _ _) R (m.same 0 YP YP)
  ·exact bY R R (f.slot 0 _ 16 R R (u ⟨0,.data⟩ YR R)) (jg _ _ _ _ (G _ _ c2)) R (m.same 1 YP YP)
  ·exact bI R R (f.base 1 Zh) (kq _ _) R (m.same 2 YP YP)
  ·exact bY R R (f.slot 2 _ 18 R R (u ⟨2,.data⟩ YR R)) (rL _ _ _ _ _ (G _ _ a7)) R (m.same 3 YP YP)
  ·have I:a.eval (.tmp 19)= .slice ad n c:=f.slot 3 _ 19 R R (u ⟨3,.data⟩ YR R);refine ti (r:= J1 J2 n) (w':=C) ?_ R R (m.same 4 YP YP);rw[v9,o8]at I;simp only[o9];go_simp
  ·have I:a.eval (.tmp 20)= J1 J2 n:=f.slot 4 _ 20 R R (u ⟨4,.data⟩ YR R);have u5:=cz hl q YP;have u7:listed.getD 7 false=false:=by
    cases h7:listed.getD 7 false with
    | false=>rfl
    | true=>have h6:=f.closed 7 _ R h7 ⟨6,.data⟩ YR R;have h5:=f.closed 6 _ R h6 ⟨5,.data⟩ YR R;grind
   obtain ⟨T,g2,g3,g4,g5,g6⟩:=m;have t:=g2 u5;refine ti (r:= J3 (S ⟨C.heap.size,0,none⟩) n n) (w':=C.alloc (.cells (B1 (C4 #[c0,c0,c0,c0,c0,c0,c0]).cells (n * 7)) 86)) (d:=21) ?_ R ?_ ?_
   ·simp[o9,I,yh n hn]
   ·show _=_;rw[t]
   ·have l5:=bS q (show 5<9 by omega);have l7:(listed.setIfInBounds 5 true).getD 7 false=false:=by rw[m7 false YP];exact u7
    refine ⟨bg T (m9 _ _ _),λh=> ?_,λ_ _=> ?_,λh=> ?_,λ_=> ?_,λh=> ?_⟩
    ·rw[l5]at h;cases h
    ·simp[t]
    ·rw[l7]at h;cases h
    ·rw[<-t];exact A0 _ _
    grind
  ·have I:a.eval (.tmp 17)= G1 J0 g z:=f.slot 1 _ 17 R R (u ⟨1,.data⟩ YR R);have k2:a.eval (.tmp 21)= J3 (S ⟨W.heap.size,0,none⟩) n n:=f.slot 5 _ 21 R R (u ⟨5,.data⟩ YR R);refine ti (r:= .agg #[G1 J0 g z,J3 (S ⟨W.heap.size,0,none⟩) n n]) (w':=C) ?_ R R (m.same 6 YP YP);simp[o9,I,k2,xn]
  ·have I:a.eval (.tmp 22)= .agg #[G1 J0 g z,J3 (S ⟨W.heap.size,0,none⟩) n n]:=f.slot 6 _ 22 R R (u ⟨6,.data⟩ YR R);have u7:=cz hl q YP;have u6:=u ⟨6,.data⟩ YR R;have u5:listed.getD 5 false=true:=f.closed 6 _ R u6 ⟨5,.data⟩ YR R;obtain ⟨T,g2,g3,g4,g5,g6⟩:=m;have t:=g3 u5 u7;refine ti (r:= J4 (S ⟨C.heap.size,0,none⟩)) (w':=C.alloc (.cells #[G1 J0 g z,J3 (S ⟨W.heap.size,0,none⟩) n n] 78)) (d:=23) ?_ R ?_ ?_
   ·simp[o9,I,Db]
   ·show _=_;rw[t]
   ·have l7:=bS q (show 7<9 by omega);have l5:(listed.setIfInBounds 7 true).getD 5 false=true:=by rw[m7 false YP];exact u5
    refine ⟨bg T (m9 _ _ _),λh=> ?_,λ_ h=> ?_,λ_=> ?_,λ_=> ?_,λ_=> ?_⟩
    ·grind
    ·grind
    ·simp[t]
    ·rw[Below.heap_alloc _ _ _ YP];exact g5 u5
    ·rw[<-t];exact A0 _ _
  ·have I:=f.slot 7 _ 23 R R (u ⟨7,.data⟩ YR R);exact jD R R I R (m.same 8 YP YP)
 ·intro listed a C f l;have k4:=f.slot 8 _ 4 R R (l 8 YQ);have E:=gZ a 42 f.size;rw[f.defers]at E;replace E:a=⟨#[a.eval (.tmp 0),a.eval (.tmp 1),a.eval (.tmp 2),a.eval (.tmp 3),a.eval (.tmp 4),a.eval (.tmp 5),a.eval (.tmp 6),a.eval (.tmp 7),a.eval (.tmp 8),a.eval (.tmp 9),a.eval (.tmp 10),a.eval (.tmp 11),a.eval (.tmp 12),a.eval (.tmp 13),a.eval (.tmp 14),a.eval (.tmp 15),a.eval (.tmp 16),a.eval (.tmp 17),a.eval (.tmp 18),a.eval (.tmp 19),a.eval (.tmp 20),a.eval (.tmp 21),a.eval (.tmp 22),a.eval (.tmp 23),a.eval (.tmp 24),a.eval (.tmp 25),a.eval (.tmp 26),a.eval (.tmp 27),a.eval (.tmp 28),a.eval (.tmp 29),a.eval (.tmp 30),a.eval (.tmp 31),a.eval (.tmp 32),a.eval (.tmp 33),a.eval (.tmp 34),a.eval (.tmp 35),a.eval (.tmp 36),a.eval (.tmp 37),a.eval (.tmp 38),a.eval (.tmp 39),a.eval (.tmp 40),a.eval (.tmp 41)],_⟩:=E;rw[f.base 0 Zh,f.base 1 Zh,f.base 2 Zh,f.base 3 Zh,f.base 5 Zh,f.base 6 Zh,f.base 7 Zh,f.base 8 Zh,f.base 9 Zh,f.base 10 Zh,f.base 11 Zh,f.base 12 Zh,f.base 13 Zh,f.base 14 Zh,f.base 15 Zh,f.base 24 Zh,f.base 25 Zh,f.base 26 Zh,f.base 27 Zh,f.base 28 Zh,f.base 29 Zh,f.base 30 Zh,f.base 31 Zh,f.base 32 Zh,f.base 33 Zh,f.base 34 Zh,f.base 35 Zh,f.base 36 Zh,f.base 37 Zh,f.base 38 Zh,f.base 39 Zh,f.base 40 Zh,f.base 41 Zh]at E;have hw:=f.world;clear f;generalize a.eval (.tmp 4)=y4 at E k4;generalize a.eval (.tmp 16)=d3 at E;generalize a.eval (.tmp 17)=d4 at E;generalize a.eval (.tmp 18)=d5 at E;generalize a.eval (.tmp 19)=d6 at E;generalize a.eval (.tmp 20)=d7 at E;generalize a.eval (.tmp 21)=d8 at E;generalize a.eval (.tmp 22)=d9 at E;generalize a.eval (.tmp 23)=e0 at E;simp[v9]at E;subst E;obtain ⟨T,_,_,g4,g5,g6⟩:=hw;have t:=g4 (l 7 YQ);have V:=g5 (l 5 YQ);have Y:=g6 (l 7 YQ);obtain ⟨N,hN⟩: ∃N,N=W.heap.size:=⟨_,R⟩;rw[<-hN]at k4 V Y t;change y4=_ at k4;subst k4;have d0:=T.cell a7 YR;refine ae HK _ _ ?_;clear HK l g4 g5 g6;have c3:fo C N n 0 y:=fo.start V;have b3:C.rangeAt (N + 1) 0 [G1 J0 g z,J3 (S ⟨N,0,none⟩) n n]:=by intro j x P;rw[C1 C (N + 1) _ _ _ _ Y];have hj:j<2:=YS;rcases (by omega:j=0\/j=1)with rfl | rfl<;>exact P
  have b4:=au T;clear T V Y;go_wp2_with fail
  go_loopw [27] (λi wr=> ∃k:Nat,k<=n/\i= J1 J2 k/\fo wr N n k y/\C.grownBy wr (S N)) (λi _=>n - (intOf i).toNat)
  case atStart=>exact ⟨0,Nat.zero_le _,R,c3,fv _ _⟩
  case round=>
   obtain ⟨k,hk,rfl,J,s⟩:=hrel;by_cases Z:k<n
   ·have d1:(k:Int)<(n:Int):=by omega
    obtain ⟨b,v0,v1,v2,v3,v4,rfl,hb,b5,_,_,_,_,_,i0,i1,i2,i3,i4⟩:=ae H k Z;obtain ⟨b0,M,rfl,_⟩:=id i0;obtain ⟨b1,a0,rfl,_⟩:=id i1;obtain ⟨b2,a3,rfl,_⟩:=id i2;obtain ⟨a1,a4,rfl,_⟩:=id i3;obtain ⟨a2,a5,rfl,_⟩:=id i4;have A:=λj x P=>by
     have h1:=b5 j x P;have h2:W.cell? ⟨b,k * 5 + j,none⟩=S x:=by rw[(ae a9).cell (by exact hb)];exact h1
     exact s.cell ((ae b4).cell h2 YR) YS
    have l0:wr.cell? ⟨b,k * 5,none⟩=S (G1 J0 b0 M):=A 0 _ R;have l1:=A 1 _ R;have l2:=A 2 _ R;have l3:=A 3 _ R;have l4:=A 4 _ R;have Hi:=au (And.intro i0 (And.intro i1 (And.intro i2 (And.intro i3 i4))));clear b5 A i0 i1 i2 i3 i4;have c4:=aW;have HP:=au J;have HG:=au s;clear J s;go_wp2_with fail
    rename_i K2 b6;have HK:=au b6;clear b6 l0 l1 l2 l3 l4 c4;have J:=ae HP;have s:=ae HG;obtain ⟨X,hX⟩: ∃X,X=wr.alloc (o2 #[G1 J0 b0 M,G1 J0 b1 a0,G1 J0 b2 a3,G1 J0 a1 a4,G1 J0 a2 a5] 70):=⟨_,R⟩;rw[<-hX];have c5:N<wr.heap.size:=by have:=s.size;omega
    have b7:wr.grownBy X (S N):=by rw[hX];exact m9 _ _ _
    have e3:fo X N n k y:=by rw[hX];exact J.grown (m9 _ _ none) c5 YR
    have m0:X.rangeAt wr.heap.size 0 [G1 J0 b0 M,G1 J0 b1 a0,G1 J0 b2 a3,G1 J0 a1 a4,G1 J0 a2 a5]:=by intro j v O;have hj:j<5:=(o0.1 O).1;rw[hX];rcases (by omega:j=0\/j=1\/j=2\/j=3\/j=4)with rfl | rfl | rfl | rfl | rfl<;>(obtain rfl:=Option.some.inj O;go_simp)
    have c6:X.cell? ⟨N + 1,1,none⟩=S (J3 (S ⟨N,0,none⟩) n n):=(bg s b7).cell (b3 1 _ R) YR;clear hX;refine dF (SP (N + 1) N n k (.agg #[G1 J0 b0 M,G1 J0 b1 a0,G1 J0 b2 a3,G1 J0 a1 a4,G1 J0 a2 a5])) (OO X N n k y) Zh Zh Zh 42 Zh R ?_ ?_ ?_
    ·exact ⟨ft _ _,by assumption⟩
    ·intro listed a w3 i o f ho Q hl u;have hi:i<9:=by simpa using (m6.1 ho).1
     have m:=f.world;have q:listed.size=9:=Q;rcases (by omega:i=0\/i=1\/i=2\/i=3\/i=4\/i=5\/i=6\/i=7\/i=8)with rfl | rfl | rfl | rfl | rfl | rfl | rfl | rfl | rfl
     all_goals obtain rfl:=Option.some.inj ho
     ·exact br R R (f.base 4 Zh) R (m.same 0 YP)
     ·exact tg R R (f.slot 0 _ 32 R R (u ⟨0,.data⟩ YR R)) R (m.same 1 YP)
     ·exact bI R R (f.slot 1 _ 33 R R (u ⟨1,.data⟩ YR R)) (ko _ _) R (m.same 2 YP)
     ·exact bY R R (f.slot 2 _ 34 R R (u ⟨2,.data⟩ YR R)) (lU _ _ _ _ _ (m.1.cell c6 YR)) R (m.same 3 YP)
     ·exact br R R (f.base 5 Zh) R (m.same 4 YP)
     ·exact bY R R (f.base 6 Zh) (r8 w3 wr.heap.size 0 70 _ _ (λj v O=>m.1.cell (m0 j v O) (by intro e;have:=Option.some.inj e;simp only at this;omega)) Try.underlying70 R kz) R (m.same 5 YP)
     ·exact fL R R (f.slot 3 _ 35 R R (u ⟨3,.data⟩ YR R)) (f.slot 4 _ 36 R R (u ⟨4,.data⟩ YR R)) (kx _ _ _ _ _ Z YP) R (m.same 6 YP)
     ·exact bI R R (f.slot 6 _ 38 R R (u ⟨6,.data⟩ YR R)) (oa _ _ _) R (m.same 7 YP)
     ·have I:=f.slot 5 _ 37 R R (u ⟨5,.data⟩ YR R);have c7:=cz hl q YP;have a6:=m.2;rw[c7]at a6;obtain ⟨i0,i1,i2,i3,i4⟩:=ae Hi;have b8:=a6.set Z i0 i1 i2 i3 i4;refine kD R R (f.slot 7 _ 39 R R (u ⟨7,.data⟩ YR R)) I kz (by simp[i0.one,i1.one,i2.one,i3.one,i4.one]) (eS a6.1 YT) ⟨bV m.1,?_⟩;rw[bS q YP,if_pos R];exact b8
    ·intro listed a w3 f l;have E:=gZ a 42 f.size;rw[f.defers]at E;replace E:a=⟨#[a.eval (.tmp 0),a.eval (.tmp 1),a.eval (.tmp 2),a.eval (.tmp 3),a.eval (.tmp 4),a.eval (.tmp 5),a.eval (.tmp 6),a.eval (.tmp 7),a.eval (.tmp 8),a.eval (.tmp 9),a.eval (.tmp 10),a.eval (.tmp 11),a.eval (.tmp 12),a.eval (.tmp 13),a.eval (.tmp 14),a.eval (.tmp 15),a.eval (.tmp 16),a.eval (.tmp 17),a.eval (.tmp 18),a.eval (.tmp 19),a.eval (.tmp 20),a.eval (.tmp 21),a.eval (.tmp 22),a.eval (.tmp 23),a.eval (.tmp 24),a.eval (.tmp 25),a.eval (.tmp 26),a.eval (.tmp 27),a.eval (.tmp 28),a.eval (.tmp 29),a.eval (.tmp 30),a.eval (.tmp 31),a.eval (.tmp 32),a.eval (.tmp 33),a.eval (.tmp 34),a.eval (.tmp 35),a.eval (.tmp 36),a.eval (.tmp 37),a.eval (.tmp 38),a.eval (.tmp 39),a.eval (.tmp 40),a.eval (.tmp 41)],_⟩:=E;rw[f.base 0 Zh,f.base 1 Zh,f.base 2 Zh,f.base 3 Zh,f.base 4 Zh,f.base 5 Zh,f.base 6 Zh,f.base 7 Zh,f.base 8 Zh,f.base 9 Zh,f.base 10 Zh,f.base 11 Zh,f.base 12 Zh,f.base 13 Zh,f.base 14 Zh,f.base 15 Zh,f.base 16 Zh,f.base 17 Zh,f.base 18 Zh,f.base 19 Zh,f.base 20 Zh,f.base 21 Zh,f.base 22 Zh,f.base 23 Zh,f.base 24 Zh,f.base 25 Zh,f.base 26 Zh,f.base 27 Zh,f.base 28 Zh,f.base 29 Zh,f.base 30 Zh,f.base 31 Zh,f.base 40 Zh,f.base 41 Zh]at E;have hw:=f.world;clear f;generalize a.eval (.tmp 32)=e4 at E;generalize a.eval (.tmp 33)=e5 at E;generalize a.eval (.tmp 34)=e6 at E;generalize a.eval (.tmp 35)=e7 at E;generalize a.eval (.tmp 36)=e8 at E;generalize a.eval (.tmp 37)=e9 at E;generalize a.eval (.tmp 38)=f0 at E;generalize a.eval (.tmp 39)=f1 at E;simp[v9]at E;subst E;obtain ⟨c9,b9⟩:=hw;rw[l 8 YQ,if_pos R]at b9;refine ae HK _ _ ?_;clear HK l;go_wp2
     go_roundw
     case rel=>exact ⟨k + 1,YP,Zl,b9,bg (bg s b7) c9⟩
     case measure=>simp[intOf];omega
   ·have:k=n:=by omega
    subst this;go_wp2
    go_ret2
    have f2:=s.size;refine ⟨N + 1,N,R,YP,YP,YP,YP,YP,λj x P=>s.cell (b3 j x P) YR,J.done,?_⟩;exact ((ae a9).trans ((fJ (ae b4)).mono YP)).grown s YP (λj e=>by cases e;omega)
def cQ (w:World)(A n:Nat)(a:Nat->C2×C2):Prop:= ∀i,i<n-> ∃p q,w.rangeAt A (i * 2) [p,q]/\aS p (a i).1/\aS q (a i).2
theorem cQ.grown{row:Option Nat}(h:cQ w B n c)(b:w.grownBy W row)(a:S B≠row):cQ W B n c:=λi d=>by obtain ⟨p,q,e,f,g⟩:=h i d;exact ⟨p,q,λj v k=>b.cell (e j v k) a,f,g⟩
theorem FL(u:L<n)(h:w.there B 0 (n * 2))(d:cQ w B L c)(j:B<w.heap.size)(k:aS r (c L).1)(l:aS v (c L).2)(o:Obj):
  (((w.setCell ⟨B,L * 2,none⟩ r).setCell ⟨B,L * 2 + 1,none⟩ v).alloc o).there B 0 (n * 2)/\cQ (((w.setCell ⟨B,L * 2,none⟩ r).setCell ⟨B,L * 2 + 1,none⟩ v).alloc o) B (L + 1) c/\w.grownBy (((w.setCell ⟨B,L * 2,none⟩ r).setCell ⟨B,L * 2 + 1,none⟩ v).alloc o) (S B):=by
 have a:w.grownBy (w.setCells B (L * 2) [r,v]) (S B):=bV (fv _ _);have e:w.setCells B (L * 2) [r,v]=(w.setCell ⟨B,L * 2,none⟩ r).setCell ⟨B,L * 2 + 1,none⟩ v:=rfl;rw[<-e];have f:=n8 j a.size;have b:=m9 (w.setCells B (L * 2) [r,v]) o none;refine ⟨bw (iz h) b f YR,?_,bg a (m9 _ _ _)⟩;refine cQ.grown ?_ b YR;intro i x;by_cases g:i=L
 ·subst g;exact ⟨r,v,v7 w B (i * 2) [r,v] (eS h YT),k,l⟩
 ·obtain ⟨p,q,m,s,t⟩:=d i YP;exact ⟨p,q,World.rangeAt_setCells_apart m B _ _ (.inr YS),s,t⟩
theorem vm:(Try.prog.info? 84).map (λi=>(i.zero,i.size,i.bytes))=S (S (.agg #[c0,c0]),2,32):=Zh
theorem qN (B L n h g g':Nat)(F:Nat->dM)(G:Nat->C2×C2)(w:World)(W:w.rangeAt B 0 [G1 J0 g g',J3 (S ⟨L,0,none⟩) n h])
  (X:Links w L n F G)(hn:n<=16)(H:L<w.heap.size):
  n9 Try.prog 32 #[J4 (S ⟨B,0,none⟩)] w λe C=> ∃A,e= .returned (J3 (S ⟨A,0,none⟩) n n)/\w.heap.size<=A/\A<C.heap.size/\cQ C A n G/\Below w.heap.size w C/\C.there A 0 (n * 2):=by
 obtain ⟨i0,I,l,m,o⟩:=B4 vm;have J:w.cell? ⟨B,1,none⟩=S (J3 (S ⟨L,0,none⟩) n h):=W 1 _ R;have HL:=au X;have K:=au J;clear X W;go_enter Try.func32,Try.ntmps32
 go_wp2_with (first
  | (refine wpList_make_full _ rfl _ _ 43 rfl w.heap.size 84 i0 (.agg #[c0,c0]) 2 Try.underlying43 I l m .i64 .i64 _ _ n rfl rfl rfl rfl (by rw[o];omega) Zj (Nat.le_refl _) ?_;intro w1 f r;have a0:=r.cell (ae K) YR))
 obtain ⟨M,N⟩:=dS f;clear f I l m o;go_loopw [19] (λi wr=> ∃k:Nat,k<=n/\i= J1 J2 k/\Below w.heap.size w wr/\w.heap.size<wr.heap.size/\wr.there w.heap.size 0 (n * 2)/\cQ wr w.heap.size k G) (λi _=>n - (intOf i).toNat)
 case atStart=>exact ⟨0,Nat.zero_le _,R,fJ r,N,M,λi I=>YP⟩
 case round=>
  obtain ⟨k,hk,rfl,c,u,d,b⟩:=hrel;by_cases v:k<n
  ·have Y:(k:Int)<(n:Int):=by omega
   obtain ⟨v0,v1,v2,v3,v4,p,q,a,Z,j1,j2,j3,j4,x,y⟩:=((ae HL).below c H).2 k v;obtain ⟨b0,z,rfl,_⟩:=id Z;obtain ⟨b1,O,rfl,_⟩:=id j1;obtain ⟨b2,P,rfl,_⟩:=id j2;obtain ⟨a1,Q,rfl,_⟩:=id j3;obtain ⟨a2,T,rfl,_⟩:=id j4;obtain ⟨s,s',rfl,_⟩:=id x;obtain ⟨t,t',rfl,_⟩:=id y;have l0:wr.cell? ⟨L,k * 7,none⟩=S (G1 J0 b0 z):=a 0 _ R;have l1:=a 1 _ R;have l2:=a 2 _ R;have l3:=a 3 _ R;have l4:=a 4 _ R;have l5:=a 5 _ R;have l6:=a 6 _ R;have D:=d (k * 2) YP;have E:=d (k * 2 + 1) YP;rw[Nat.zero_add]at D E;obtain ⟨ua,a3⟩:=o6.1 D.1;obtain ⟨ub,a4⟩:=o6.1 E.1;have fa:=D.2;have fb:=E.2;have Hj:=au (And.intro x y);have V:=au (And.intro c (And.intro d b));have a5:w.heap.size≠wr.heap.size:=YP;clear a Z j1 j2 j3 j4 x y c d b D E;have a6:=aW;go_wp2
   go_roundw
   case rel=>obtain ⟨c,d,b⟩:=ae V;obtain ⟨x,y⟩:=ae Hj;obtain ⟨r1,r2,r3⟩:=FL v d b u x y (o2 #[G1 J0 b0 z,G1 J0 b1 O,G1 J0 b2 P,G1 J0 a1 Q,G1 J0 a2 T,G1 J0 s s',G1 J0 t t'] 86);exact ⟨k + 1,YP,Zl,c.grown r3 c.size (λj e=>YS),Nat.lt_of_lt_of_le u r3.size,r1,r2⟩
   case measure=>simp[intOf];omega
  ·have:k=n:=by omega
   subst this;go_wp2
   go_ret
   simp_all
def sV (B L n a k:Nat)(b:l9):Nat->l9->Prop
 | 26,v=>v= J4 (S ⟨B,0,none⟩)
 | 27,v=>v= J4 (S ⟨B,0,none⟩)
 | 28,v=>v= J4 (S ⟨B,1,none⟩)
 | 29,v=>v= J3 (S ⟨L,0,none⟩) n a
 | 30,v=>v= J1 J2 k
 | 31,v=>v=b
 | 32,v=>v= J4 (S ⟨L,k * 7,none⟩)
 | 33,v=>v= J4 (S ⟨L,k * 7 + 5,none⟩)
 | _,_=>True
def sC (W:World)(L n k:Nat)(b:Nat->dM)(d c:Nat->C2×C2)(a:Array Bool)(w:World):Prop:=
 W.grownBy w (S L)/\Links w L n b (λi=>if i<(if a.getD 8 false then k + 1 else k)then c i else d i)
theorem sC.same{a:Nat->C2×C2}(h:sC W L n B d c a f w)(i:Nat)(b:i≠8):sC W L n B d c a (f.setIfInBounds i true) w:=by unfold sC;rw[m7 false b];exact h
theorem FV {a:Nat->C2×C2}(k:Nat):(λi=>if i<k + 1 then a i else c i)=(λi=>if i=k then ((a k).1,(a k).2)else if i<k then a i else c i):=by grind
theorem uN (B L n z g g' A c:Nat)(m:Nat->dM)(N r:Nat->C2×C2)(w:World)(hB:w.rangeAt B 0 [G1 J0 g g',J3 (some ⟨L,0,none⟩) n z])
  (hL:Links w L n m N)(hA:cQ w A n r)(P:A≠L)(a6:B≠L)(hn:n<=16)(a7:L<w.heap.size):
  n9 Try.prog 31 #[J4 (some ⟨B,0,none⟩),J3 (some ⟨A,0,none⟩) n c] w λe w'=>e= .returned (J1 J2 0)/\Links w' L n m r/\w.grownBy w' (some L):=by
 have Q:w.cell? ⟨B,1,none⟩=some (J3 (some ⟨L,0,none⟩) n z):=hB 1 _ R;have T:=au Q;have HL:=au hL;have HA:=au hA;clear hL hB hA;go_enter Try.func31,Try.ntmps31
 go_wp2_with fail
 go_loopw [21] (λi wr=> ∃k:Nat,k<=n/\i= J1 J2 k/\Links wr L n m (λi=>if i<k then r i else N i)/\w.grownBy wr (some L)) (λi _=>n - (intOf i).toNat)
 case atStart=>exact ⟨0,Nat.zero_le _,R,by assumption,fv _ _⟩
 case round=>
  obtain ⟨k,hk,rfl,f,d⟩:=hrel;by_cases C:k<n
  ·have a5:(k:Int)<(n:Int):=by omega
   obtain ⟨p,q,D,V,W⟩:=ae HA k C;obtain ⟨s,O,rfl,_⟩:=id V;obtain ⟨t,Y,rfl,_⟩:=id W;have G:some A≠some L:=by intro e;exact P (m5 e)
   have l0:wr.cell? ⟨A,k * 2,none⟩=some (G1 J0 s O):=d.cell (D 0 _ R) G;have l1:=d.cell (D 1 _ R) G;have Hj:=au (And.intro V W);have HP:=au (And.intro f d);clear D V W f d;have Z:=aW;go_wp2_with fail
   rename_i K hK;have HK:=au hK;clear hK l0 l1 Z;obtain ⟨f,d⟩:=ae HP;obtain ⟨X,H⟩: ∃X,X=wr.alloc (o2 #[G1 J0 s O,G1 J0 t Y] 84):=⟨_,R⟩;rw[<-H];have a0:L<wr.heap.size:=by have:=d.size;omega
   have I:wr.grownBy X (some L):=by rw[H];exact m9 _ _ _
   have a8:Links X L n m (λi=>if i<k then r i else N i):=by rw[H];exact f.grown (m9 _ _ none) a0 YR
   have m0:X.rangeAt wr.heap.size 0 [G1 J0 s O,G1 J0 t Y]:=by intro j v hv;have hj:j<2:=YS;rw[H];rcases (by omega:j=0\/j=1)with rfl | rfl<;>(simp_all)
   have a1:=(bg d I).cell (ae T) YS;clear H;refine dF (sV B L n z k (.agg #[G1 J0 s O,G1 J0 t Y])) (sC X L n k m N r) Zh Zh Zh 35 Zh R ?_ ?_ ?_
   ·exact ⟨ft _ _,by assumption⟩
   ·intro listed a w3 i o b ho a2 hl u;have hi:i<9:=by simpa using (m6.1 ho).1
    have l:=b.world;have x:listed.size=9:=a2;rcases (by omega:i=0\/i=1\/i=2\/i=3\/i=4\/i=5\/i=6\/i=7\/i=8)with rfl | rfl | rfl | rfl | rfl | rfl | rfl | rfl | rfl
    all_goals obtain rfl:=m5 ho
    ·exact br R R (b.base 0 Zh) R (l.same 0 YP)
    ·exact tg R R (b.slot 0 _ 26 R R (u ⟨0,.data⟩ YR R)) R (l.same 1 YP)
    ·exact bI R R (b.slot 1 _ 27 R R (u ⟨1,.data⟩ YR R)) (ko _ _) R (l.same 2 YP)
    ·exact bY R R (b.slot 2 _ 28 R R (u ⟨2,.data⟩ YR R)) (lU _ _ _ _ _ (l.1.cell a1 YS)) R (l.same 3 YP)
    ·exact br R R (b.base 5 Zh) R (l.same 4 YP)
    ·exact bY R R (b.base 6 Zh) (r8 w3 wr.heap.size 0 84 _ _ (λj v hv=>l.1.cell (m0 j v hv) YS) Try.underlying84 R ic) R (l.same 5 YP)
    ·exact fL R R (b.slot 3 _ 29 R R (u ⟨3,.data⟩ YR R)) (b.slot 4 _ 30 R R (u ⟨4,.data⟩ YR R)) (kx _ _ _ _ _ C YP) R (l.same 6 YP)
    ·exact bI R R (b.slot 6 _ 32 R R (u ⟨6,.data⟩ YR R)) (kr _ _ _) R (l.same 7 YP)
    ·have k1:=b.slot 5 _ 31 R R (u ⟨5,.data⟩ YR R);have a3:=cz hl x YP;have F:=l.2;rw[a3]at F;obtain ⟨i0,i1⟩:=ae Hj;have J:=F.set C i0 i1;refine kD R R (b.slot 7 _ 33 R R (u ⟨7,.data⟩ YR R)) k1 ic (by simp[i0.one,i1.one]) (eS F.1 YT) ⟨bV l.1,?_⟩;rw[bS x YP,if_pos R,FV];exact J
   ·intro listed a w3 b y;have E:=gZ a 35 b.size;rw[b.defers]at E;replace E:a=⟨#[a.eval (.tmp 0),a.eval (.tmp 1),a.eval (.tmp 2),a.eval (.tmp 3),a.eval (.tmp 4),a.eval (.tmp 5),a.eval (.tmp 6),a.eval (.tmp 7),a.eval (.tmp 8),a.eval (.tmp 9),a.eval (.tmp 10),a.eval (.tmp 11),a.eval (.tmp 12),a.eval (.tmp 13),a.eval (.tmp 14),a.eval (.tmp 15),a.eval (.tmp 16),a.eval (.tmp 17),a.eval (.tmp 18),a.eval (.tmp 19),a.eval (.tmp 20),a.eval (.tmp 21),a.eval (.tmp 22),a.eval (.tmp 23),a.eval (.tmp 24),a.eval (.tmp 25),a.eval (.tmp 26),a.eval (.tmp 27),a.eval (.tmp 28),a.eval (.tmp 29),a.eval (.tmp 30),a.eval (.tmp 31),a.eval (.tmp 32),a.eval (.tmp 33),a.eval (.tmp 34)],_⟩:=E;rw[b.base 0 Zh,b.base 1 Zh,b.base 2 Zh,b.base 3 Zh,b.base 4 Zh,b.base 5 Zh,b.base 6 Zh,b.base 7 Zh,b.base 8 Zh,b.base 9 Zh,b.base 10 Zh,b.base 11 Zh,b.base 12 Zh,b.base 13 Zh,b.base 14 Zh,b.base 15 Zh,b.base 16 Zh,b.base 17 Zh,b.base 18 Zh,b.base 19 Zh,b.base 20 Zh,b.base 21 Zh,b.base 22 Zh,b.base 23 Zh,b.base 24 Zh,b.base 25 Zh,b.base 34 Zh]at E;have hw:=b.world;clear b;generalize a.eval (.tmp 26)=a9 at E;generalize a.eval (.tmp 27)=b0 at E;generalize a.eval (.tmp 28)=b1 at E;generalize a.eval (.tmp 29)=b2 at E;generalize a.eval (.tmp 30)=b3 at E;generalize a.eval (.tmp 31)=b4 at E;generalize a.eval (.tmp 32)=b5 at E;generalize a.eval (.tmp 33)=b6 at E;simp[v9]at E;subst E;obtain ⟨a4,M⟩:=hw;rw[y 8 YQ,if_pos R]at M;refine ae HK _ _ ?_;clear HK y;go_wp2
    go_roundw
    case rel=>exact ⟨k + 1,YP,Zl,M,bg (bg d I) a4⟩
    case measure=>simp[intOf];omega
  ·have:k=n:=by omega
   subst this;go_wp2
   go_ret
   refine ⟨R,?_,d⟩;refine ⟨f.1,λi hi=> ?_⟩;have h:=f.2 i hi;simp_all
def cellsOf (w:World)(L m:Nat):List l9:=(p8 m).map λj=>(w.cell? ⟨L,j,none⟩).getD U
theorem uG (w:World)(L m:Nat):(cellsOf w L m).length=m:=by simp[cellsOf]
theorem lJ(a:B<n)(b:w.cell? ⟨L,B,none⟩=S v):(cellsOf w L n)[B]? =S v:=by simp[cellsOf,a,b]
def z1:C2:=(lf 4607182418800017408,lf 0)
theorem Oa:aS (G1 J0 4607182418800017408 0) z1:=aS.of _ _ YP YP
theorem bn.below {w':World}(h:bn w v n d)(e:Below w.heap.size w w'):bn w' v n d:=by obtain ⟨c,f,g,k⟩:=h;refine ⟨c,f,g,λi l=> ?_⟩;obtain ⟨b,m,o,p,q,r,s,a,t,u⟩:=k i l;exact ⟨b,m,o,p,q,r,s,n8 a e.size,λj x y=>by rw[e.cell (by exact a)];exact t j x y,u⟩
structure Gu where
 flush:Bool
 clip:Bool
 mute:Bool
def jA:Gu:=⟨false,false,false⟩
def qI (b:Nat):Nat:=if ng b then 9223372036854775808 else 0
def qG (g:Gu):Option Nat->Option Nat×Nat
 | none=>if g.mute then (S 0,1)else (none,0)
 | some b=>
  if rg b=9218868437227405312 then (if g.clip then (S (qI b + 9218868437227405311),1)else (S b,0))
  else if 0<rg b/\rg b<4503599627370496 then (if g.flush then (S (qI b),1)else (S b,0))
  else (S b,0)
def qL (g:Gu)(z:C2):C2×Nat:=(((qG g z.1).1,(qG g z.2).1),(qG g z.1).2 + (qG g z.2).2)
theorem Ma (b:Nat):qI b + 9218868437227405311<18446744073709551616/\qI b<18446744073709551616:=by unfold qI;grind
theorem rz (g:Gu)(h:rg n≠9218868437227405312)(a: ¬ (0<rg n/\rg n<4503599627370496)):qG g (S n)=(S n,0):=by simp[qG,h,a]
theorem ry (g:Gu)(x:Option Nat):(qG g x).2<=1/\((qG g x).2=0->(qG g x).1=x):=by
 cases x with
 | none=>cases e:g.mute<;>simp[qG,e]
 | some b=>
  by_cases a:rg b=9218868437227405312
  ·cases c:g.clip<;>simp[qG,a,c]
  ·by_cases d:0<rg b/\rg b<4503599627370496
   ·cases c:g.flush<;>simp[qG,a,d,c]
   ·simp[rz g a d]
theorem fV (g:Gu)(z:C2):(qL g z).2<=2/\((qL g z).2=0->(qL g z).1=z):=by have a:=ry g z.1;have b:=ry g z.2;refine ⟨by simp only[qL];omega,λh=> ?_⟩;simp only[qL]at h ⊢;grind
theorem Df (x:Option Nat):qG jA x=(x,0):=by
 cases x with
 | none=>rfl
 | some b=>simp[qG,jA]
theorem uJ (z:C2):qL jA z=(z,0):=by simp[qL,Df]
def wY (g:Gu)(a:Nat->dM)(b:Nat->C2×C2)(x:C2):Nat->C2
 | 0=>x
 | k + 1=>(qL g (rY (a k) (b k).1 (wY g a b x k))).1
def tR (g:Gu)(a:Nat->dM)(b:Nat->C2×C2)(x:C2)(k:Nat):C2:=rY (a k) (b k).1 (wY g a b x k)
def JQ (g:Gu)(a:Nat->dM)(b:Nat->C2×C2)(x:C2)(k:Nat):C2:=MV (a k) (b k).2 (wY g a b x k) (tR g a b x k)
def Mr (g:Gu)(a:Nat->dM)(b:Nat->C2×C2)(x:C2)(k:Nat):C2:=MW (a k) (wY g a b x k) (tR g a b x k)
def JR (g:Gu)(a:Nat->dM)(b:Nat->C2×C2)(x:C2)(k:Nat):C2×C2:=((qL g (JQ g a b x k)).1,(qL g (Mr g a b x k)).1)
def CH (g:Gu)(a:Nat->dM)(b:Nat->C2×C2)(x:C2)(k:Nat):Nat->C2×C2:=λi=>if i<k then JR g a b x i else b i
def tP (g:Gu)(a:Nat->dM)(b:Nat->C2×C2)(x:C2):Nat->Nat
 | 0=>0
 | k + 1=>tP g a b x k + ((qL g (tR g a b x k)).2 + (qL g (JQ g a b x k)).2 + (qL g (Mr g a b x k)).2)
def jr (g:Gu)(G:C2)(n:Nat)(a:Nat->dM)(b:Nat->C2×C2)(X:Nat->C2):Nat->(Nat->C2×C2)
 | 0=>b
 | k + 1=>CH g a (jr g G n a b X k) (bm G (X k)) n
def gT (g:Gu)(G:C2)(n:Nat)(a:Nat->dM)(b:Nat->C2×C2)(X:Nat->C2)(k:Nat):C2:=wY g a (jr g G n a b X k) (bm G (X k)) n
def gM (g:Gu)(G:C2)(n:Nat)(a:Nat->dM)(b:Nat->C2×C2)(X:Nat->C2):Nat->Nat
 | 0=>0
 | k + 1=>gM g G n a b X k + tP g a (jr g G n a b X k) (bm G (X k)) n
theorem tS (a:Nat->dM)(b:Nat->C2×C2)(x:C2): ∀k,wY jA a b x k=sE a b x k
 | 0=>rfl
 | k + 1=>by rw[wY,uJ,tS a b x k];rfl
theorem FX (a:Nat->dM)(b:Nat->C2×C2)(x:C2)(k:Nat):JR jA a b x k=FA a b x k:=by simp only[JR,JQ,Mr,tR,uJ,tS];rfl
theorem FY (a:Nat->dM)(b:Nat->C2×C2)(x:C2)(n:Nat):CH jA a b x n=fO a b x n:=by funext i;simp only[CH,fO,FX]
theorem sx (G:C2)(n:Nat)(a:Nat->dM)(b:Nat->C2×C2)(X:Nat->C2): ∀k,jr jA G n a b X k=oT G n a b X k
 | 0=>rfl
 | k + 1=>by rw[jr,oT,FY,sx G n a b X k]
theorem yX (G:C2)(n:Nat)(a:Nat->dM)(b:Nat->C2×C2)(X:Nat->C2)(k:Nat):gT jA G n a b X k=hU G n a b X k:=by rw[gT,hU,tS,sx]
def Gv (g:Gu):l9:= .agg #[.bool g.flush,.bool g.clip,.bool g.mute]
def mi (g:Gu)(b:Nat):Nat×Nat:=
 if cls b=4 then (if g.mute then (0,1)else (b,0))
 else if cls b=3 then (if g.clip then (qI b + 9218868437227405311,1)else (b,0))
 else if cls b=1 then (if g.flush then (qI b,1)else (b,0))
 else (b,0)
theorem Ky (b:Nat):(cls b=4↔9218868437227405312<rg b)/\(cls b=3↔rg b=9218868437227405312)/\(cls b=1↔0<rg b/\rg b<4503599627370496):=by have h:=JL b;have a:=OS b;have c:=JC b;rw[h];unfold cls;omega
theorem Lt (b:Nat):lf (qI b + 9218868437227405311)=S (qI b + 9218868437227405311):=by unfold qI;split<;>rfl
theorem Ls (b:Nat):lf (qI b)=S (qI b):=by unfold qI;split<;>rfl
theorem Dg (g:Gu)(b:Nat)(n:b<18446744073709551616):(mi g b).1<18446744073709551616/\lf (mi g b).1=(qG g (lf b)).1/\(mi g b).2=(qG g (lf b)).2:=by
 obtain ⟨o,l,m⟩:=Ky b;have i:=Ma b;unfold mi;by_cases j:cls b=4
 ·have c:lf b=none:=by unfold lf cT;rw[if_pos YS]
  rw[if_pos j,c];cases k:g.mute
  ·simp only[qG,k];grind
  ·simp only[qG,k,if_true];exact ⟨YQ,YQ,trivial⟩
 ·have c:lf b=S b:=by unfold lf cT;rw[if_neg YS]
  rw[if_neg j,c];by_cases d:cls b=3
  ·have e:=l.1 d;rw[if_pos d];cases a:g.clip
   ·simp only[qG,a,e,if_true];grind
   ·simp only[qG,a,e,if_true];exact ⟨i.1,Lt b,trivial⟩
  ·have f: ¬rg b=9218868437227405312:=by omega
   rw[if_neg d];by_cases h:cls b=1
   ·have e:=m.1 h;rw[if_pos h];cases a:g.flush
    ·simp only[qG,a,if_neg f,if_pos e];grind
    ·simp only[qG,a,if_neg f,if_pos e];exact ⟨i.2,Ls b,R⟩
   ·have e: ¬ (0<rg b/\rg b<4503599627370496):=by omega
    rw[if_neg h,rz g f e];grind
theorem ou:I7 .andNot .u64 9218868437227405311 9223372036854775808=9218868437227405311:=YQ
theorem tj (b:Nat)(a:b<18446744073709551616):(I7 .or .u64 (I7 .andNot .u64 0 9223372036854775808) (I7 .and .u64 (b:Int) 9223372036854775808)).toNat=qI b:=by rw[pt b a,nw];unfold qI;cases ng b<;>decide
theorem vO (b:Nat)(a:b<18446744073709551616):(I7 .or .u64 (I7 .andNot .u64 9218868437227405311 9223372036854775808) (I7 .and .u64 (b:Int) 9223372036854775808)).toNat=qI b + 9218868437227405311:=by rw[pt b a,ou];unfold qI;cases ng b<;>decide
theorem qM (b:Nat)(a:b<18446744073709551616)(w:World):
  n9 Try.prog 91 #[.float .f64 0,.float .f64 b] w λe c=>e= .returned (.float .f64 (qI b))/\c=w:=by
 have d:=au (tj b a);clear a;have f:=na;have g:=ig;go_enter Try.func91,Try.ntmps91
 go_wp2
 go_ret
 rw[<-ae d];simp
theorem sK (b:Nat)(a:b<18446744073709551616)(w:World):
  n9 Try.prog 91 #[.float .f64 9218868437227405311,.float .f64 b] w λe c=>e= .returned (.float .f64 (qI b + 9218868437227405311))/\c=w:=by
 have d:=au (vO b a);clear a;have f:=na;have g:=ig;go_enter Try.func91,Try.ntmps91
 go_wp2
 go_ret
 rw[<-ae d];simp
theorem Be (b:Nat)(a:b<18446744073709551616)(f:cls b=1)(w:World):
  n9 Try.prog 92 #[.float .f64 b] w λe c=>e= .returned (.float .f64 (qI b))/\c=w:=by
 have d:=td b a;rw[f]at d;have g:=au d;have h:=au (qM b a);clear a d f;go_enter Try.func92,Try.ntmps92
 go_wp2_with fail
 refine (ae g _).mono ?_;rintro e c ⟨rfl,rfl⟩;go_wp2_with fail
 refine (ae h _).mono ?_;rintro e c ⟨rfl,rfl⟩;go_wp2
 go_ret
 simp
theorem zE (i j k:Bool)(b:Nat)(f:b<18446744073709551616)(w:World):
  n9 Try.prog 86 #[.agg #[.bool i,.bool j,.bool k],.float .f64 b] w λe g=>e= .returned (.tuple #[.float .f64 (mi ⟨i,j,k⟩ b).1,J1 J2 ((mi ⟨i,j,k⟩ b).2:Nat)])/\Below w.heap.size w g:=by
 have a:=td b f;have l:=Kx b;rcases (by omega:cls b=0\/cls b=1\/cls b=2\/cls b=3\/cls b=4)with h | h | h | h | h
 ·have c:Hid (mi ⟨i,j,k⟩ b=(b,0)):=by simp[Hid,mi,h]
  rw[h]at a;have d:=au a;clear a f h;go_enter Try.func86,Try.ntmps86
  go_wp2_with fail
  refine (ae d _).mono ?_;rintro e g ⟨rfl,rfl⟩;go_wp2
  go_ret2
  rw[ae c];exact ⟨R,(Below.refl _ w).alloc (Nat.le_refl _) _⟩
 ·cases i
  ·have c:Hid (mi ⟨false,j,k⟩ b=(b,0)):=by simp[Hid,mi,h]
   rw[h]at a;have d:=au a;clear a f h;go_enter Try.func86,Try.ntmps86
   go_wp2_with fail
   refine (ae d _).mono ?_;rintro e g ⟨rfl,rfl⟩;go_wp2
   go_ret2
   rw[ae c];exact ⟨R,(Below.refl _ w).alloc (Nat.le_refl _) _⟩
  ·have c:Hid (mi ⟨true,j,k⟩ b=(qI b,1)):=by simp[Hid,mi,h]
   have m:=au (Be b f h);rw[h]at a;have d:=au a;clear a f h;go_enter Try.func86,Try.ntmps86
   go_wp2_with fail
   refine (ae d _).mono ?_;rintro e g ⟨rfl,rfl⟩;go_wp2_with fail
   refine (ae m _).mono ?_;rintro e g ⟨rfl,rfl⟩;go_wp2
   go_ret2
   rw[ae c];exact ⟨R,(Below.refl _ w).alloc (Nat.le_refl _) _⟩
 ·have c:Hid (mi ⟨i,j,k⟩ b=(b,0)):=by simp[Hid,mi,h]
  rw[h]at a;have d:=au a;clear a f h;go_enter Try.func86,Try.ntmps86
  go_wp2_with fail
  refine (ae d _).mono ?_;rintro e g ⟨rfl,rfl⟩;go_wp2
  go_ret2
  rw[ae c];exact ⟨R,(Below.refl _ w).alloc (Nat.le_refl _) _⟩
 ·cases j
  ·have c:Hid (mi ⟨i,false,k⟩ b=(b,0)):=by simp[Hid,mi,h]
   rw[h]at a;have d:=au a;clear a f h;go_enter Try.func86,Try.ntmps86
   go_wp2_with fail
   refine (ae d _).mono ?_;rintro e g ⟨rfl,rfl⟩;go_wp2
   go_ret2
   rw[ae c];exact ⟨R,(Below.refl _ w).alloc (Nat.le_refl _) _⟩
  ·have c:Hid (mi ⟨i,true,k⟩ b=(qI b + 9218868437227405311,1)):=by simp[Hid,mi,h]
   have n:=au (sK b f);rw[h]at a;have d:=au a;clear a f h;go_enter Try.func86,Try.ntmps86
   go_wp2_with fail
   refine (ae d _).mono ?_;rintro e g ⟨rfl,rfl⟩;go_wp2_with fail
   refine (ae n _).mono ?_;rintro e g ⟨rfl,rfl⟩;go_wp2
   go_ret2
   rw[ae c];exact ⟨R,(Below.refl _ w).alloc (Nat.le_refl _) _⟩
 ·cases k
  ·have c:Hid (mi ⟨i,j,false⟩ b=(b,0)):=by simp[Hid,mi,h]
   rw[h]at a;have d:=au a;clear a f h;go_enter Try.func86,Try.ntmps86
   go_wp2_with fail
   refine (ae d _).mono ?_;rintro e g ⟨rfl,rfl⟩;go_wp2
   go_ret2
   rw[ae c];exact ⟨R,(Below.refl _ w).alloc (Nat.le_refl _) _⟩
  ·have c:Hid (mi ⟨i,j,true⟩ b=(0,1)):=by simp[Hid,mi,h]
   rw[h]at a;have d:=au a;clear a f h;go_enter Try.func86,Try.ntmps86
   go_wp2_with fail
   refine (ae d _).mono ?_;rintro e g ⟨rfl,rfl⟩;go_wp2
   go_ret2
   rw[ae c];exact ⟨R,(Below.refl _ w).alloc (Nat.le_refl _) _⟩
theorem Dh (g:Gu)(b:Nat):(mi g b).2<=1:=by unfold mi;grind
theorem vg (g:Gu)(r i:Nat)(n:r<18446744073709551616)(o:i<18446744073709551616)(w:World):
  n9 Try.prog 74 #[Gv g,G1 J0 r i] w λe p=>e= .returned (.tuple #[G1 J0 (mi g r).1 (mi g i).1,J1 J2 (((mi g r).2 + (mi g i).2:Nat):Int)])/\Below w.heap.size w p:=by
 have t:=Dh g r;have u:=Dh g i;obtain ⟨d,f,h⟩:=g;have q:=au (zE d f h r n);have s:=au (zE d f h i o);unfold Gv;dsimp only;generalize mi ⟨d,f,h⟩ r=a at *;generalize mi ⟨d,f,h⟩ i=b at *;obtain ⟨v,x⟩:=a;obtain ⟨y,z⟩:=b;dsimp only at *;clear n o;go_enter Try.func74,Try.ntmps74
 go_wp2_with fail
 refine (ae q _).mono ?_;rintro e l ⟨rfl,c⟩;have A:l.cell? ⟨w.heap.size,0,none⟩=S (.bool d):=(c.cell YR).trans Zk;have B:l.cell? ⟨w.heap.size,1,none⟩=S (.bool f):=(c.cell YR).trans Zk;have C:l.cell? ⟨w.heap.size,2,none⟩=S (.bool h):=(c.cell YR).trans Zk;have j:=au (((o3 _ w).alloc (n7 _) _).trans (c.mono YR));clear c;go_wp2_with fail
 refine (ae s _).mono ?_;rintro e D ⟨rfl,k⟩;have m:=au ((ae j).trans (k.mono (ae j).size));clear k;go_wp2
 go_ret2
 exact ⟨R,ae m⟩
theorem Kw (g:Gu)(k:aS v z)(w:World):n9 Try.prog 74 #[Gv g,v] w λe a=> ∃r i,e= .returned (.tuple #[G1 J0 r i,J1 J2 ((qL g z).2:Nat)])/\aS (G1 J0 r i) (qL g z).1/\Below w.heap.size w a:=by obtain ⟨r,i,rfl,b,c,l,m⟩:=k;refine (vg g r i b c w).mono ?_;rintro e a ⟨rfl,n⟩;obtain ⟨o,d,f⟩:=Dg g r b;obtain ⟨p,h,j⟩:=Dg g i c;rw[l]at d f;rw[m]at h j;exact ⟨_,_,by rw[f,j];rfl,⟨_,_,R,o,p,d,h⟩,n⟩
structure Apart (w w':World)(B L:Nat):Prop where
 os:w'.os=w.os
 tape:w'.tape=w.tape
 output:w'.output=w.output
 size:w.heap.size<=w'.heap.size
 block: ∀k,k<w.heap.size->k≠B->k≠L->w'.heap[k]? =w.heap[k]?
theorem Apart.trans {a b c:World}{B L:Nat}(h:Apart a b B L)(k:Apart b c B L):Apart a c B L:=
 ⟨k.os.trans h.os,k.tape.trans h.tape,k.output.trans h.output,y3 h.size k.size,λi d e f=>(k.block i (n8 d h.size) e f).trans (h.block i d e f)⟩
theorem Apart.fst(L:Nat)(h:w.grownBy W (S B)):Apart w W B L:=
 ⟨h.os,h.tape,h.output,h.size,λk a b _=>h.block k a YS⟩
theorem Apart.snd(B:Nat)(h:w.grownBy W (S L)):Apart w W B L:=
 ⟨h.os,h.tape,h.output,h.size,λk a _ b=>h.block k a YS⟩
theorem Apart.low {w':World}(B L:Nat)(h:Below w.heap.size w w'):Apart w w' B L:= .fst L (di h _)
theorem Apart.own {c:World}(h:Apart w W B L)(k:Apart W c B n)(e:w.heap.size<=n):Apart w c B L:=
 ⟨k.os.trans h.os,k.tape.trans h.tape,k.output.trans h.output,y3 h.size k.size,λi a b d=>(k.block i (n8 a h.size) b YP).trans (h.block i a b d)⟩
theorem Apart.cell {w':World}(h:Apart w w' B L){a:x5}(b:w.cell? a=S v)(c:a.block≠B)(d:a.block≠L):w'.cell? a=S v:=
 (o4 (w:=w) (h.block _ (World.block_lt_of_cell? _ _ b) c d)).trans b
theorem Apart.range(h:Apart w W B L){cs:List l9}(a:w.rangeAt n s cs)(b:n≠B)(c:n≠L):W.rangeAt n s cs:=λj v d=>h.cell (a j v d) b c
theorem Apart.there {w a:World}{B L:Nat}(h:Apart w a B L){b o n:Nat}(c:w.there b o n)(d:b<w.heap.size)(f:b≠B)(g:b≠L):a.there b o n:=λj i=>by have e:=h.block b d f g;rw[o4 (w:=w) e,z2 (w:=w) e];exact c j i
theorem Apart.below {w':World}(h:Apart w w' B L)(k:Below n W w)(a:n<=w.heap.size)(b:n<=B)(c:n<=L):Below n W w':=
 k.trans ⟨h.os,h.tape,h.output,h.size,λi d=>h.block i YP YP YP⟩
theorem Links.apart(h:Links w L n d c)(k:Apart w W B s)(e:L<w.heap.size)(a:L≠B)(b:L≠s):Links W L n d c:=by refine ⟨k.there h.1 e a b,λi f=> ?_⟩;obtain ⟨g,j,l,m,o,p,q,r,t⟩:=h.2 i f;exact ⟨g,j,l,m,o,p,q,k.range r a b,t⟩
def wO (v:l9)(n B:Nat):Prop:=0<n-> ∀b a m c,v= J3 (S ⟨b,a,none⟩) m c->b≠B
theorem bn.apart(h:bn w v n d)(k:Apart w W B L)(e:wO v n B)(f:wO v n L):bn W v n d:=by obtain ⟨g,c,rfl,j⟩:=h;refine ⟨g,c,R,λi l=> ?_⟩;obtain ⟨b,m,o,p,q,r,rfl,a,s,t⟩:=j i l;exact ⟨b,m,o,p,q,r,R,n8 a k.size,k.range s (e YP _ _ _ _ R) (f YP _ _ _ _ R),t⟩
theorem bn.off {w:World}{n A:Nat}{v:l9}{a:Nat->dM}(h:bn w v n a)(f:w.heap.size<=A):wO v n A:=by obtain ⟨g,c,rfl,i⟩:=h;intro j b d m k e;grind
theorem bj.apart{X:Nat->C2}(h:bj w v n X)(k:Apart w W B L)(e:wO v n B)(f:wO v n L):bj W v n X:=by obtain ⟨g,c,rfl,i⟩:=h;refine ⟨g,c,R,λj l=> ?_⟩;obtain ⟨b,a,u,rfl,d,m,o⟩:=i j l;exact ⟨b,a,u,R,n8 d k.size,k.cell m (e YP _ _ _ _ R) (f YP _ _ _ _ R),o⟩
theorem bj.off {w:World}{m A:Nat}{v:l9}{X:Nat->C2}(h:bj w v m X)(d:w.heap.size<=A):wO v m A:=by obtain ⟨f,c,rfl,g⟩:=h;intro i b a j k e;grind
def de (w:World)(B:Nat)(a b d:l9)(g:Gu)(c:Nat):Prop:=
 w.there B 0 8/\w.rangeAt B 0 [a,b,a,d,.bool g.flush,.bool g.clip,.bool g.mute,.int .u64 c]
theorem de.grown{b c:l9}{g:Gu}{row:Option Nat}(h:de w B r b c g n)(k:w.grownBy W row)(d:B<w.heap.size)(a:S B≠row):de W B r b c g n:=
 ⟨bw h.1 k d a,λj v e=>k.cell (h.2 j v e) a⟩
variable {X:Gu}
theorem de.below {w':World}{a:l9}(h:de w B v r a X n)(k:Below w.heap.size w w')(b:B<w.heap.size):de w' B v r a X n:=h.grown (di k none) b YR
theorem de.apart{a:l9}(h:de w B v r a X n)(k:Apart w W L s)(d:B<w.heap.size)(b:B≠L)(c:B≠s):de W B v r a X n:=
 ⟨k.there h.1 d b c,k.range h.2 b c⟩
theorem de.set{b:Value}(h:de w B v r b X n)(c:Nat):de (w.setCell ⟨B,7,none⟩ (.int .u64 c)) B v r b X c:=by
 refine ⟨dK h.1 _ _,λj d a=> ?_⟩;have f:j<8:=(o0.1 a).1;by_cases e:j=7
 ·subst e;obtain rfl:=m5 a;exact iV (h.2 7 _ R)
 ·rw[gn YR];refine h.2 j d ?_;rcases (by omega:j=0\/j=1\/j=2\/j=3\/j=4\/j=5\/j=6)with rfl | rfl | rfl | rfl | rfl | rfl | rfl<;>exact a
def NI (v:l9)(n N M:Nat):Prop:=0<n-> ∀b a m c,v= J3 (S ⟨b,a,none⟩) m c->N<=b/\b<M
theorem NI.off {v:l9}{n N M B:Nat}(h:NI v n N M)(f:B<N\/M<=B):wO v n B:=λd b a m c e=>by have:=h d b a m c e;omega
def bU (w:World)(N M B L n:Nat)(G:C2)(a:Nat->dM)(h:Nat->C2×C2)(g:Gu)(c:Nat):Prop:=
 ∃e f d b,de w B (G1 J0 e f) (J3 (S ⟨L,0,none⟩) n d) b g c/\aS (G1 J0 e f) G/\Links w L n a h/\bn w b n a/\NI b n N M/\wO b n B/\wO b n L/\B≠L/\N<=B/\B<M/\N<=L/\L<M/\M<=w.heap.size
theorem bU.apart {w i:World}{N M B L n c b A:Nat}{G:C2}{a:Nat->dM}{j:Nat->C2×C2}{g:Gu}(h:bU w N M B L n G a j g c)(k:Apart w i b A)(l:b<N\/M<=b)(m:A<N\/M<=A):bU i N M B L n G a j g c:=by obtain ⟨o,p,d,q,r,s,t,u,e,v,x,f,y,z,C,D,E⟩:=h;have:=k.size;exact ⟨o,p,d,q,r.apart k YP YP YP,s,t.apart k YP YP YP,u.apart k (e.off l) (e.off m),e,v,x,f,y,z,C,D,YP⟩
theorem bU.lt{a:Nat}(h:bU w s Y B L n z d c X a):s<=B/\B<Y/\s<=L/\L<Y/\Y<=w.heap.size/\B≠L:=by obtain ⟨f,g,b,i,j,k,l,m,o,p,q,e,r,t,u,v,x⟩:=h;omega
theorem lL (B c:Nat)(j l m:l9)(g:Gu)(x n:Nat)(z:C2)(w:World)(d:de w B j l m g c)(u:B<w.heap.size)(p:aS (G1 J0 x n) z)(H:c<=9000000000000000000):
  n9 Try.prog 54 #[J4 (S ⟨B,0,none⟩),G1 J0 x n] w λe s=> ∃r i,e= .returned (G1 J0 r i)/\aS (G1 J0 r i) (qL g z).1/\de s B j l m g (c + (qL g z).2)/\w.grownBy s (S B):=by
 have h:=au (Kw g p);have I:=(fV g z).1;generalize qL g z=q at *;obtain ⟨q,k⟩:=q;dsimp only at *;clear p;have v:=au d;obtain ⟨y,A,C⟩:=g;unfold Gv at h;dsimp only at h;have D:w.cell? ⟨B,4,none⟩=S (.bool y):=d.2 4 _ R;have E:w.cell? ⟨B,5,none⟩=S (.bool A):=d.2 5 _ R;have F:w.cell? ⟨B,6,none⟩=S (.bool C):=d.2 6 _ R;clear d;go_enter Try.func54,Try.ntmps54
 go_wp2_with fail
 refine (ae h _).mono ?_;rintro e t ⟨r,i,rfl,f,b⟩;have a:=(ae v).below b u;have J:t.cell? ⟨B,7,none⟩=S (.int .u64 c):=a.2 7 _ R;have K:t.frozen? ⟨B,7,none⟩=false:=(a.1 7 YP).2;have G:=au (And.intro f (And.intro b a));clear f b a D E F;go_wp2
 go_ret
 obtain ⟨f,b,a⟩:=ae G;refine ⟨r,i,R,f,?_,bV (o:=7) (cs:= [.int .u64 ((c:Int) + (k:Int))]) (di b _)⟩;have:=a.set (c + k);assumption
theorem sU (B c:Nat)(b d f:l9)(g:Gu)(w:World)(a:de w B b d f g c):
  n9 Try.prog 12 #[J4 (S ⟨B,0,none⟩)] w λe h=>e= .returned (.int .u64 c)/\h=w:=by
 have i:w.cell? ⟨B,7,none⟩=S (.int .u64 c):=a.2 7 _ R;clear a;go_enter Try.func12,Try.ntmps12
 go_wp2
 go_ret
 simp
theorem ku (B L n a c r p:Nat)(t:l9)(g:Gu)(b:Nat->dM)(f:Nat->C2×C2)(w:World)(q:de w B (G1 J0 r p) (J3 (S ⟨L,0,none⟩) n a) t g c)(s:Links w L n b f)(u:n<=16)(h:L<w.heap.size):
  n9 Try.prog 14 #[J4 (S ⟨B,0,none⟩)] w λe d=> ∃A,e= .returned (J3 (S ⟨A,0,none⟩) n n)/\w.heap.size<=A/\A<d.heap.size/\cQ d A n f/\Below w.heap.size w d/\d.there A 0 (n * 2):=by
 have x:=au (qN B L n a r p b f w (λj v y=>q.2 j v (by have z:j<2:=YS;rcases (by omega:j=0\/j=1)with rfl | rfl<;>exact y)) s u h);clear q s;go_enter Try.func14,Try.ntmps14;go_wp2_with fail
 refine (ae x).mono ?_;rintro e C ⟨A,rfl,i,k,l,m,o⟩;have H:=au (And.intro i (And.intro k (And.intro l (And.intro m o))));clear i k l m o;go_wp2
 go_ret
 obtain ⟨i,k,l,m,o⟩:=ae H;simp_all
def vf (s c d:Nat)(W:World)(e f:C2)(b:Array Bool)(a:I2)(w:World):Prop:=
 W.grownBy w none/\(b.getD c false=true-> ∃N,a.eval (.tmp s)= J4 (S ⟨N,0,none⟩)/\W.heap.size<=N/\N<w.heap.size/\w.there N 0 2/\(b.getD d false=true-> ∃p q,w.rangeAt N 0 [p,q]/\aS p e/\aS q f))
theorem vf.same{b:C2}{a:I2}(h:vf s n B W z b f a w)(i d:Nat)(c:o.dst=S d)(e:i≠n)(g:i≠B)(j:s≠d): ∀u,vf s n B W z b (f.setIfInBounds i true) (a.put o.dst u) w:=by intro u;unfold vf;rw[c,fD j,m7 false e,m7 false g];exact h
theorem vf.call{c:World}{g:C2}{a:I2}(h:vf s n B W z g f a w)(i d:Nat)(l:o.dst=S d)(m:i≠n)(r:i≠B)(t:s≠d)(b:Below w.heap.size w c):vf s n B W z g (f.setIfInBounds i true) (a.put o.dst v) c:=by unfold vf;rw[l,fD t,m7 false m,m7 false r];refine ⟨bg h.1 (di b none),λu=> ?_⟩;obtain ⟨N,e,x,k,y,A⟩:=h.2 u;refine ⟨N,e,x,n8 k b.size,bw y (di b none) k YR,λC=> ?_⟩;obtain ⟨p,q,D,E,F⟩:=A C;exact ⟨p,q,λj G H=>(di b none).cell (D j G H) YR,E,F⟩
theorem tw (w:World):(Instr.alloc 84 true (.tuple #[])).run Try.prog w= .ok (J4 (S ⟨w.heap.size,0,none⟩)) (w.alloc (.cells #[G1 J0 0 0,G1 J0 0 0] 84)):=Zk
theorem vf.alloc {s c d n:Nat}{W w:World}{e f:C2}{b:Array Bool}{a:I2}(h:vf s c d W e f b a w)(k:a.tmps.size=n)(l:s<n){o:D4}(g:o.dst=S s)(i:c≠d)(m:b.getD d false=false):
  vf s c d W e f (b.setIfInBounds c true) (a.put o.dst (J4 (S ⟨w.heap.size,0,none⟩))) (w.alloc (.cells #[G1 J0 0 0,G1 J0 0 0] 84)):=by
 unfold vf;rw[g,qh YP,m7 false i];refine ⟨bg h.1 (m9 _ _ _),λ_=>⟨w.heap.size,R,h.1.size,YR,λj p=> ?_,λq=> ?_⟩⟩
 ·rw[z8,C1 _ w.heap.size _ _ _ _ (A0 _ _),C8 _ _ _ _ _ (A0 _ _)];rcases (by omega:j=0\/j=1)with rfl | rfl<;>exact ⟨R,R⟩
 grind
theorem vf.store{c:C2}(h:vf s n B W z c f e w)(m:o.dst=none)(p:f.getD n false=true)(g:e.eval (.tmp s)= J4 (S ⟨L,0,none⟩))(q:aS v z)(t:aS r c):
  vf s n B W z c (f.setIfInBounds B true) (e.put o.dst U) (w.setCells L 0 [v,r]):=by
 obtain ⟨b,i,u,x,j,y⟩:=h.2 p;have:b=L:=by rw[i]at g;simpa using g
 subst this;have d:(e.put o.dst U).eval (.tmp s)=e.eval (.tmp s):=by rw[m];rfl
 have a:w.grownBy (w.setCells b 0 [v,r]) (S b):=bV (fv _ _);unfold vf;rw[d];refine ⟨⟨a.os.trans h.1.os,a.tape.trans h.1.tape,a.output.trans h.1.output,y3 h.1.size a.size,λk l _=>(a.block k (n8 l h.1.size) YS).trans (h.1.block k l YR)⟩,λ_=>⟨b,i,u,n8 x a.size,iz j,λ_=>⟨v,r,?_,q,t⟩⟩⟩;exact v7 w b 0 [v,r] j
theorem ID{y:y8}(a:o.op= .store t x y)(b:e.eval x=r)(c:e.eval y=v)(d:(C9 t r v).run Try.prog w= .ok () W)(h:D U W):bD Try.prog o e w D:=
 .inr (.inl ⟨W,by simp[o9,a,b,c,d],h⟩)
theorem BM{y z:y8}{u:l9}(a:o.op= .call {callee:= .value (.func 44),args:= #[x,y,z],argTypes:=p})(d:e.eval x=u)(f:e.eval y=v)(g:e.eval z=r)
  (h:n9 Try.prog 44 #[u,v,r] w λb c=> ∃v,b= .returned v/\D v c):bD Try.prog o e w D:=by
 refine .inr (.inr ⟨44,#[e.eval x,e.eval y,e.eval z],?_,?_⟩)
 ·simp[o9,a];go_simp
 grind
theorem xE (b:Nat)(w:World):(q8 81 (J4 (S ⟨b,0,none⟩)) 2).run Try.prog w= .ok (J4 (S ⟨b,3,none⟩)) w:=Zk
theorem xU (b n c k:Nat)(w:World)(h:k<n)(a:n<=100):(s7 27 (J3 (S ⟨b,0,none⟩) n c) (J1 J2 k)).run Try.prog w= .ok (J4 (S ⟨b,k * 5,none⟩)) w:=by have d:(k:Int)<(n:Int):=YP;go_simp
theorem rK (b n c k:Nat)(w:World)(h:k<n)(a:n<=100):(s7 43 (J3 (S ⟨b,0,none⟩) n c) (J1 J2 k)).run Try.prog w= .ok (J4 (S ⟨b,k * 2,none⟩)) w:=by have d:(k:Int)<(n:Int):=YP;go_simp
theorem Ga (g:Gu)(a:Nat->dM)(b:Nat->C2×C2)(x:C2):CH g a b x 0=b:=by rfl
theorem FZ (g:Gu)(a:Nat->dM)(b:Nat->C2×C2)(x:C2)(k:Nat):CH g a b x (k + 1)=λi=>if i=k then JR g a b x k else CH g a b x k i:=by funext i;unfold CH;grind
theorem tQ (g:Gu)(a:Nat->dM)(b:Nat->C2×C2)(x:C2): ∀k,tP g a b x k<=6 * k
 | 0=>n7 _
 | k + 1=>by have:=tQ g a b x k;have c:=(fV g (tR g a b x k)).1;have d:=(fV g (JQ g a b x k)).1;have e:=(fV g (Mr g a b x k)).1;rw[tP];omega
def SJ (B A b n e f k:Nat)(g h x:l9)(a c d:C2):Nat->l9->Prop
 | 29,v=>v= J4 (S ⟨B,0,none⟩)
 | 30,v=>v= J4 (S ⟨B,0,none⟩)
 | 31,v=>v= J4 (S ⟨B,3,none⟩)
 | 32,v=>v= J3 (S ⟨b,0,none⟩) n e
 | 33,v=>v= J1 J2 k
 | 34,v=>v= J4 (S ⟨b,k * 5,none⟩)
 | 35,v=>v=g
 | 36,v=>v= J3 (S ⟨A,0,none⟩) n f
 | 37,v=>v= J1 J2 k
 | 38,v=>v= J4 (S ⟨A,k * 2,none⟩)
 | 39,v=>v=h
 | 40,v=>v=x
 | 41,v=> ∃y p q,v= .tuple #[y,.agg #[p,q]]/\aS y a/\aS p c/\aS q d
 | 28,v=> ∃y p q,v= .tuple #[y,.agg #[p,q]]/\aS y a/\aS p c/\aS q d
 | 42,v=>aS v a
 | 43,v=> ∃p q,v= .agg #[p,q]/\aS p c/\aS q d
 | 10,v=> ∃N,v= J4 (S ⟨N,0,none⟩)
 | 9,v=>aS v a
 | _,_=>True
def SK (B A N n d k:Nat)(p q:l9)(a b:C2):Nat->l9->Prop
 | 47,v=>v= J3 (S ⟨A,0,none⟩) n d
 | 48,v=>v= J1 J2 k
 | 49,v=>v= J4 (S ⟨B,0,none⟩)
 | 50,v=>v= J4 (S ⟨N,0,none⟩)
 | 51,v=>v=p
 | 52,v=>aS v a
 | 53,v=>v= J4 (S ⟨B,0,none⟩)
 | 54,v=>v= J4 (S ⟨N,1,none⟩)
 | 55,v=>v=q
 | 56,v=>aS v b
 | 57,v=> ∃u c,v= .agg #[u,c]/\aS u a/\aS c b
 | 58,v=>v= J4 (S ⟨A,k * 2,none⟩)
 | _,_=>True
def Oy (W:World)(B A n k:Nat)(d e f:l9)(g:Gu)(c h j:Nat)(b:Nat->C2×C2)(l m:C2)(a:Array Bool)(w:World):Prop:=
 Apart W w B A/\de w B d e f g (c + (if a.getD 5 false then h else 0) + (if a.getD 9 false then j else 0))/\w.there A 0 (n * 2)/\cQ w A n (if a.getD 12 false then (λi=>if i=k then (l,m)else b i)else b)
theorem Oy.same{A c:Nat}{b:l9}{d:Nat->C2×C2}{e:C2}(h:Oy W B A n L v r b X c s Y d z e f w)(i:Nat)(g:i≠5)(j:i≠9)(a:i≠12):Oy W B A n L v r b X c s Y d z e (f.setIfInBounds i true) w:=by unfold Oy;rw[m7 false g,m7 false j,m7 false a];exact h
theorem cQ.set{A k:Nat}(h:cQ w A n c)(d:w.there A 0 (n * 2))(g:k<n){u:Value}{b:C2}(j:aS u z)(l:aS v b):cQ (w.setCells A (k * 2) [u,v]) A n (λi=>if i=k then (z,b)else c i):=λi e=>by
 by_cases a:i=k
 ·subst a;exact ⟨u,v,World.rangeAt_setCells_same w A (i * 2) [u,v] (eS d YT),YS,YS⟩
 ·obtain ⟨p,q,f,m,o⟩:=h i e;exact ⟨p,q,World.rangeAt_setCells_apart f A _ _ (.inr YS),YS,YS⟩
theorem rP{d:Nat}{y:y8}(a:o.op= .call {callee:= .value (.func 54),args:= #[x,y],argTypes:=p})(f:o.dst=S d)(g:e.eval x=r)(h:e.eval y=v)
  (i:n9 Try.prog 54 #[r,v] w λb c=> ∃v,b= .returned v/\V d v/\C c):ec Try.prog o e w (λv=> ∀d,o.dst=S d->V d v) C:=by
 refine .inr (.inr ⟨54,#[e.eval x,e.eval y],?_,?_⟩)
 ·simp[o9,a];go_simp
 grind
theorem rH (B A n c cA gr gi x x':Nat)(lk sv:l9)(g:Gu)(G X:C2)(l:Nat->dM)(J:Nat->C2×C2)(w:World)(T:de w B (G1 J0 gr gi) lk sv g c)(hg:aS (G1 J0 gr gi) G)(hx:aS (G1 J0 x x') X)
  (P:bn w sv n l)(d1:wO sv n B)(d2:wO sv n A)(C:cQ w A n J)(D:w.there A 0 (n * 2))(V:B≠A)(hB:B<w.heap.size)(hA:A<w.heap.size)(hn:n<=16)(m:c<=8000000000000000000):
  n9 Try.prog 30 #[J4 (S ⟨B,0,none⟩),J3 (S ⟨A,0,none⟩) n cA,G1 J0 x x'] w λe w'=> ∃r i,e= .returned (G1 J0 r i)/\aS (G1 J0 r i) (wY g l J (bm G X) n)/\
   cQ w' A n (CH g l J (bm G X) n)/\w'.there A 0 (n * 2)/\de w' B (G1 J0 gr gi) lk sv g (c + tP g l J (bm G X) n)/\bn w' sv n l/\Apart w w' B A:=by
 obtain ⟨a4,cs,rfl,_⟩:=id P;have Hm:=au (mulC hg hx);have c2:w.cell? ⟨B,2,none⟩=S (G1 J0 gr gi):=T.2 2 _ R;have c3:w.cell? ⟨B,3,none⟩=S (.slice a4 n cs):=T.2 3 _ R;have H:=au (And.intro T (And.intro P (And.intro C D)));clear T P C D;go_enter Try.func30,Try.ntmps30
 go_wp2_with fail
 refine (ae Hm _).mono ?_;rintro e w1 ⟨y0,rfl,b9,c1⟩;have h0:w1.cell? ⟨B,3,none⟩=S (.slice a4 n cs):=by rw[c1.cell];exact c3
 have a6:=au c1;have f0:=au b9;obtain ⟨y1,y2,rfl,_⟩:=id b9;clear Hm c1 b9 c2 c3;go_wp2_with fail
 go_loopw [7,25] (λy i wr=> ∃k:Nat,k<=n/\i= J1 J2 k/\aS y (wY g l J (bm G X) k)/\cQ wr A n (CH g l J (bm G X) k)/\wr.there A 0 (n * 2)/\de wr B (G1 J0 gr gi) lk (.slice a4 n cs) g (c + tP g l J (bm G X) k)/\bn wr (.slice a4 n cs) n l/\Apart w wr B A)
  (λ_ i _=>n - (intOf i).toNat)
 case atStart=>obtain ⟨T,P,C,D⟩:=ae H;have k:=Apart.low B A (ae a6 w.heap.size);have kg:=(ae a6).grown none;exact ⟨0,Nat.zero_le _,R,ae f0,by rw[Ga];exact C.grown kg YR,(ae a6).there D,T.grown kg hB YR,P.below (ae a6 w.heap.size),k⟩
 case round=>
  obtain ⟨k,hk,rfl,hy,C,D,T,P,L⟩:=hrel;by_cases a3:k<n
  ·have g8:(k:Int)<(n:Int):=by omega
   obtain ⟨f1,f2,e2,b5⟩:=id P;obtain ⟨b,v0,v1,v2,v3,v4,d3,hb,W,_,_,_,_,_,i0,i1,i2,i3,i4⟩:=b5 k a3;obtain ⟨rfl,rfl⟩:a4=f1/\cs=f2:=YS;subst d3;obtain ⟨p,q,a7,ip,iq⟩:=C k a3;have d4:CH g l J (bm G X) k k=J k:=by unfold CH;rw[if_neg YP]
   rw[d4]at ip iq;obtain ⟨b0,c4,rfl,_⟩:=id i0;obtain ⟨b1,d5,rfl,_⟩:=id i1;obtain ⟨b2,d6,rfl,_⟩:=id i2;obtain ⟨a1,d7,rfl,_⟩:=id i3;obtain ⟨a2,d8,rfl,_⟩:=id i4;obtain ⟨s,s',rfl,_⟩:=id ip;obtain ⟨t,t',rfl,_⟩:=id iq;obtain ⟨z,z',rfl,_⟩:=id hy;have l0:wr.cell? ⟨b,k * 5,none⟩=S (G1 J0 b0 c4):=W 0 _ R;have l1:=W 1 _ R;have l2:=W 2 _ R;have l3:=W 3 _ R;have l4:=W 4 _ R;have l5:wr.cell? ⟨A,k * 2,none⟩=S (G1 J0 s s'):=a7 0 _ R;have l6:=a7 1 _ R;have l7:wr.cell? ⟨B,3,none⟩=S (J3 (S ⟨b,0,none⟩) n cs):=T.2 3 _ R;have Hr:=au (rX b0 c4 b1 d5 b2 d6 a1 d7 a2 d8 s s' t t' z z' (l k) (J k).1 (J k).2 (wY g l J (bm G X) k) i0 i1 i2 i3 i4 ip iq hy);have HH:=au (And.intro C (And.intro D (And.intro T (And.intro P L))));have f3:=au l7;have f4:=au W;have f5:=au a7;clear i0 i1 i2 i3 i4 ip iq hy W a7 C D T P L b5 e2;have f6:=aW;go_wp2_with fail
   rename_i K hK;have HK:=au hK;clear hK l0 l1 l2 l3 l4 l5 l6 l7 f6;refine cv (SJ B A b n cs cA k (.agg #[G1 J0 b0 c4,G1 J0 b1 d5,G1 J0 b2 d6,G1 J0 a1 d7,G1 J0 a2 d8]) (.agg #[G1 J0 s s',G1 J0 t t']) (G1 J0 z z') (tR g l J (bm G X) k) (JQ g l J (bm G X) k) (Mr g l J (bm G X) k)) (vf 10 16 18 wr (JQ g l J (bm G X) k) (Mr g l J (bm G X) k)) Zh Zh Zh 61 Zh R ?_ ?_ ?_
   ·exact ⟨ft _ _,λh=>by simp at h⟩
   ·intro listed a w2 i o f ho c5 hl I;have hi:i<19:=by simpa using (m6.1 ho).1
    have m:=f.world;have F:listed.size=19:=c5;have d9: ∀b o cs,wr.rangeAt b o cs->w2.rangeAt b o cs:=λb o cs h j v hv=>m.1.cell (h j v hv) YR;rcases (by omega:i=0\/i=1\/i=2\/i=3\/i=4\/i=5\/i=6\/i=7\/i=8\/i=9\/i=10\/i=11\/i=12\/i=13\/i=14\/i=15\/i=16\/i=17\/i=18)with rfl | rfl | rfl | rfl | rfl | rfl | rfl | rfl | rfl | rfl | rfl | rfl | rfl | rfl | rfl | rfl | rfl | rfl | rfl
    all_goals obtain rfl:=m5 ho
    ·exact (br R R (f.base 0 Zh) R (m.same 0 29 R YP YP YP)).lv
    ·exact (tg R R (f.slot 0 _ 29 R R (I ⟨0,.data⟩ YR R)) R (m.same 1 30 R YP YP YP)).lv
    ·exact (bI R R (f.slot 1 _ 30 R R (I ⟨1,.data⟩ YR R)) (xE _ _) R (m.same 2 31 R YP YP YP)).lv
    ·exact (bY R R (f.slot 2 _ 31 R R (I ⟨2,.data⟩ YR R)) (rL _ _ _ _ _ (m.1.cell (ae f3) YR)) R (m.same 3 32 R YP YP YP)).lv
    ·exact (br R R (f.base 8 Zh) R (m.same 4 33 R YP YP YP)).lv
    ·exact (fL R R (f.slot 3 _ 32 R R (I ⟨3,.data⟩ YR R)) (f.slot 4 _ 33 R R (I ⟨4,.data⟩ YR R)) (xU _ _ _ _ _ a3 YP) R (m.same 5 34 R YP YP YP)).lv
    ·exact (bY R R (f.slot 5 _ 34 R R (I ⟨5,.data⟩ YR R)) (r8 w2 b (k * 5) 70 _ _ (d9 _ _ _ (ae f4)) Try.underlying70 R kz) R (m.same 6 35 R YP YP YP)).lv
    ·exact (br R R (f.base 1 Zh) R (m.same 7 36 R YP YP YP)).lv
    ·exact (br R R (f.base 8 Zh) R (m.same 8 37 R YP YP YP)).lv
    ·exact (fL R R (f.slot 7 _ 36 R R (I ⟨7,.data⟩ YR R)) (f.slot 8 _ 37 R R (I ⟨8,.data⟩ YR R)) (rK _ _ _ _ _ a3 YP) R (m.same 9 38 R YP YP YP)).lv
    ·exact (bY R R (f.slot 9 _ 38 R R (I ⟨9,.data⟩ YR R)) (r8 w2 A (k * 2) 84 _ _ (d9 _ _ _ (ae f5)) Try.underlying84 R ic) R (m.same 10 39 R YP YP YP)).lv
    ·exact (br R R (f.base 7 Zh) R (m.same 11 40 R YP YP YP)).lv
    ·refine BM R (f.slot 6 _ 35 R R (I ⟨6,.data⟩ YR R)) (f.slot 10 _ 39 R R (I ⟨10,.data⟩ YR R)) (f.slot 11 _ 40 R R (I ⟨11,.data⟩ YR R)) ((ae Hr w2).mono ?_);rintro e w3 ⟨y,u,v,rfl,hy,hu,hv,f7⟩;exact ⟨_,R,aj R ⟨y,u,v,R,hy,hu,hv⟩,m.call 12 41 R YP YP YP f7⟩
    ·obtain ⟨y,u,v,k1,k2,k3,k4⟩:=f.slot 12 _ 41 R R (I ⟨12,.data⟩ YR R);exact (br R R k1 ⟨y,u,v,R,k2,k3,k4⟩ (m.same 13 28 R YP YP YP)).lv
    ·obtain ⟨y,u,v,k1,k2,k3,k4⟩:=f.slot 13 _ 28 R R (I ⟨13,.data⟩ YR R);exact (oe R R k1 k2 (m.same 14 42 R YP YP YP)).lv
    ·obtain ⟨y,u,v,k1,k2,k3,k4⟩:=f.slot 13 _ 28 R R (I ⟨13,.data⟩ YR R);exact (og R R k1 ⟨u,v,R,k3,k4⟩ (m.same 15 43 R YP YP YP)).lv
    ·have u18:=f.fK F YP hl 18 R ⟨16,.data⟩ YR R R;refine .inl ⟨_,_,?_,aj R ⟨w2.heap.size,R⟩,m.alloc f.size (show 10<61 by omega) R YP u18⟩;simp[o9,tw]
    ·have k1:=f.slot 14 _ 42 R R (I ⟨14,.data⟩ YR R);exact (jD (d:=9) R R R k1 (m.same 17 9 R YP YP YP)).lv
    ·obtain ⟨p,q,k1,k2,k3⟩:=f.slot 15 _ 43 R R (I ⟨15,.data⟩ YR R);have e0:=I ⟨16,.data⟩ YR R;obtain ⟨N,e,n1,n2,ht,_⟩:=m.2 e0;refine ID R e k1 (F2 w2 N 0 84 #[p,q] ht ic (by simp[k2.one,k3.one])) ⟨λd' h=>(by cases h),m.store R e0 e k2 k3⟩
   ·intro listed a w2 f M;have f8:=f.world;obtain ⟨O,f9⟩:=f8;obtain ⟨N,eN,n1,n2,g0,e1⟩:=f9 (M 16 YQ);obtain ⟨p,q,c6,hp,hq⟩:=e1 (M 18 YQ);have k9:=f.slot 17 _ 9 R R (M 17 YQ);have E:=gZ a 61 f.size;rw[f.defers]at E;replace E:a=⟨#[a.eval (.tmp 0),a.eval (.tmp 1),a.eval (.tmp 2),a.eval (.tmp 3),a.eval (.tmp 4),a.eval (.tmp 5),a.eval (.tmp 6),a.eval (.tmp 7),a.eval (.tmp 8),a.eval (.tmp 9),a.eval (.tmp 10),a.eval (.tmp 11),a.eval (.tmp 12),a.eval (.tmp 13),a.eval (.tmp 14),a.eval (.tmp 15),a.eval (.tmp 16),a.eval (.tmp 17),a.eval (.tmp 18),a.eval (.tmp 19),a.eval (.tmp 20),a.eval (.tmp 21),a.eval (.tmp 22),a.eval (.tmp 23),a.eval (.tmp 24),a.eval (.tmp 25),a.eval (.tmp 26),a.eval (.tmp 27),a.eval (.tmp 28),a.eval (.tmp 29),a.eval (.tmp 30),a.eval (.tmp 31),a.eval (.tmp 32),a.eval (.tmp 33),a.eval (.tmp 34),a.eval (.tmp 35),a.eval (.tmp 36),a.eval (.tmp 37),a.eval (.tmp 38),a.eval (.tmp 39),a.eval (.tmp 40),a.eval (.tmp 41),a.eval (.tmp 42),a.eval (.tmp 43),a.eval (.tmp 44),a.eval (.tmp 45),a.eval (.tmp 46),a.eval (.tmp 47),a.eval (.tmp 48),a.eval (.tmp 49),a.eval (.tmp 50),a.eval (.tmp 51),a.eval (.tmp 52),a.eval (.tmp 53),a.eval (.tmp 54),a.eval (.tmp 55),a.eval (.tmp 56),a.eval (.tmp 57),a.eval (.tmp 58),a.eval (.tmp 59),a.eval (.tmp 60)],_⟩:=E;rw[f.base 0 Zh,f.base 1 Zh,f.base 2 Zh,f.base 3 Zh,f.base 4 Zh,f.base 5 Zh,f.base 6 Zh,f.base 7 Zh,f.base 8 Zh,f.base 11 Zh,f.base 12 Zh,f.base 13 Zh,f.base 14 Zh,f.base 15 Zh,f.base 16 Zh,f.base 17 Zh,f.base 18 Zh,f.base 19 Zh,f.base 20 Zh,f.base 21 Zh,f.base 22 Zh,f.base 23 Zh,f.base 24 Zh,f.base 25 Zh,f.base 26 Zh,f.base 27 Zh,f.base 44 Zh,f.base 45 Zh,f.base 46 Zh,f.base 47 Zh,f.base 48 Zh,f.base 49 Zh,f.base 50 Zh,f.base 51 Zh,f.base 52 Zh,f.base 53 Zh,f.base 54 Zh,f.base 55 Zh,f.base 56 Zh,f.base 57 Zh,f.base 58 Zh,f.base 59 Zh,f.base 60 Zh]at E;clear f;generalize a.eval (.tmp 9)=y9 at E k9;generalize a.eval (.tmp 10)=h1 at E eN;subst eN;generalize a.eval (.tmp 28)=h2 at E;generalize a.eval (.tmp 29)=h3 at E;generalize a.eval (.tmp 30)=h4 at E;generalize a.eval (.tmp 31)=h5 at E;generalize a.eval (.tmp 32)=h6 at E;generalize a.eval (.tmp 33)=h7 at E;generalize a.eval (.tmp 34)=h8 at E;generalize a.eval (.tmp 35)=h9 at E;generalize a.eval (.tmp 36)=i5 at E;generalize a.eval (.tmp 37)=i6 at E;generalize a.eval (.tmp 38)=i7 at E;generalize a.eval (.tmp 39)=i8 at E;generalize a.eval (.tmp 40)=i9 at E;generalize a.eval (.tmp 41)=j0 at E;generalize a.eval (.tmp 42)=j1 at E;generalize a.eval (.tmp 43)=j2 at E;simp[v9]at E;subst E;refine ae HK _ _ ?_;clear HK M;obtain ⟨p,p',rfl,_⟩:=id hp;obtain ⟨q,q',rfl,_⟩:=id hq;obtain ⟨y9,g1,rfl,_⟩:=id k9;have e3:w2.cell? ⟨N,0,none⟩=S (G1 J0 p p'):=c6 0 _ R;have e4:w2.cell? ⟨N,1,none⟩=S (G1 J0 q q'):=c6 1 _ R;obtain ⟨C,D,T,P,L⟩:=ae HH;have g2:=Nat.lt_of_lt_of_le hB L.size;have g3:=Nat.lt_of_lt_of_le hA L.size;have g9:=tQ g l J (bm G X) k;have e5:B<w2.heap.size:=YP;have Hd:=au (lL B (c + tP g l J (bm G X) k) _ _ _ g y9 g1 _ w2 (T.grown O g2 YR) e5 k9 YP);have H2:=au (And.intro (C.grown O YR) (And.intro (bw D O g3 YR) (And.intro (P.below ⟨O.os,O.tape,O.output,O.size,λk hk=>O.block k hk YR⟩) (L.trans ⟨O.os,O.tape,O.output,O.size,λk hk _ _=>O.block k hk YR⟩))));have g4:=au (And.intro hp hq);clear C D T P L hp hq k9 c6 e1 g0;go_wp2_with fail
    refine (ae Hd).mono ?_;rintro e e6 ⟨y7,j3,rfl,a8,a9,Q⟩;obtain ⟨C,D,P,L⟩:=ae H2;have b3:N≠B:=YP;have e7:N≠A:=YP;have b6:=Q.cell e3 (by intro e;exact b3 (m5 e));have b7:=Q.cell e4 (by intro e;exact b3 (m5 e));have c7:A<w2.heap.size:=YP;have a5:=C.grown Q (by intro e;exact V (m5 e).symm);have Z:=bw D Q c7 (by intro e;exact V (m5 e).symm);have a0:=L.trans (.fst A Q);have b4:=P.apart (.fst A Q) d1 d2;have e8:=Nat.lt_of_lt_of_le e5 Q.size;have b8:=Q.size;have H3:=au (And.intro a8 (And.intro a9 (And.intro a5 (And.intro Z (And.intro a0 b4)))));have g5:=au b6;have g6:=au b7;clear C D P L a8 a9 Q a5 Z a0 b4 e3 e4 H2 Hd;go_wp2_with fail
    clear b6 b7;obtain ⟨a8,a9,a5,Z,a0,b4⟩:=ae H3;obtain ⟨hp,hq⟩:=ae g4;refine dF (SK B A N n cA k (G1 J0 p p') (G1 J0 q q') (JR g l J (bm G X) k).1 (JR g l J (bm G X) k).2) (Oy e6 B A n k (G1 J0 gr gi) lk (J3 (S ⟨b,0,none⟩) n cs) g (c + tP g l J (bm G X) k + (qL g (tR g l J (bm G X) k)).2) (qL g (JQ g l J (bm G X) k)).2 (qL g (Mr g l J (bm G X) k)).2 (CH g l J (bm G X) k) (JR g l J (bm G X) k).1 (JR g l J (bm G X) k).2) Zh Zh Zh 61 Zh R ?_ ?_ ?_
    ·refine ⟨.low _ _ ((o3 _ _).drew),?_,?_,?_⟩
     ·rw[if_neg YR,if_neg YR];exact a9.grown (ft _ none) e8 YR
     ·exact (dJ e6).there Z
     assumption
    ·intro listed a w4 i o f ho c5 hl I;have hi:i<13:=by simpa using (m6.1 ho).1
     have m:=f.world;have F:listed.size=13:=c5;have c9:=Nat.lt_of_lt_of_le e8 m.1.size;rcases (by omega:i=0\/i=1\/i=2\/i=3\/i=4\/i=5\/i=6\/i=7\/i=8\/i=9\/i=10\/i=11\/i=12)with rfl | rfl | rfl | rfl | rfl | rfl | rfl | rfl | rfl | rfl | rfl | rfl | rfl
     all_goals obtain rfl:=m5 ho
     ·exact br R R (f.base 1 Zh) R (m.same 0 YP YP YP)
     ·exact br R R (f.base 8 Zh) R (m.same 1 YP YP YP)
     ·exact br R R (f.base 0 Zh) R (m.same 2 YP YP YP)
     ·exact bI R R (f.base 10 Zh) (mN _ 0 YP _) R (m.same 3 YP YP YP)
     ·exact bY R R (f.slot 3 _ 50 R R (I ⟨3,.data⟩ YR R)) (jg _ _ _ _ (m.1.cell (ae g5) b3 e7)) R (m.same 4 YP YP YP)
     ·have u5:=cz hl F YP;have u9:=f.fK F YP hl 9 R ⟨5,.chain⟩ YR R R;have u12:=f.fK F YP hl 12 R ⟨5,.phase⟩ YR R R;obtain ⟨r1,r2,r3,r4⟩:=m;rw[u5,u9,if_neg YR,if_neg YR,Nat.add_zero]at r2;rw[u12,if_neg YR]at r4;refine rP R R (f.slot 2 _ 49 R R (I ⟨2,.data⟩ YR R)) (f.slot 4 _ 51 R R (I ⟨4,.data⟩ YR R)) ?_;refine (lL B _ _ _ _ g p p' _ w4 r2 c9 hp (by have:=(fV g (tR g l J (bm G X) k)).1;omega)).mono ?_;rintro e w5 ⟨u,u',rfl,hu,d0,Y⟩;refine ⟨_,R,hu,r1.trans (.fst A Y),?_,bw r3 Y (Nat.lt_of_lt_of_le (Nat.lt_of_lt_of_le c7 b8) r1.size) (by intro e;exact V (m5 e).symm),?_⟩
      ·rw[bS F YP,if_pos R,m7 false YP,u9,if_neg YR,Nat.add_zero];exact d0
      ·rw[m7 false YP,u12,if_neg YR];exact r4.grown Y (by intro e;exact V (m5 e).symm)
     ·exact br R R (f.base 0 Zh) R (m.same 6 YP YP YP)
     ·exact bI R R (f.base 10 Zh) (mN _ 1 YP _) R (m.same 7 YP YP YP)
     ·exact bY R R (f.slot 7 _ 54 R R (I ⟨7,.data⟩ YR R)) (jg _ _ _ _ (m.1.cell (ae g6) b3 e7)) R (m.same 8 YP YP YP)
     ·have u9:=cz hl F YP;have l5:listed.getD 5 false=true:=I ⟨5,.chain⟩ YR R;have u12:=f.fK F YP hl 12 R ⟨9,.phase⟩ YR R R;obtain ⟨r1,r2,r3,r4⟩:=m;rw[l5,u9,if_pos R,if_neg YR,Nat.add_zero]at r2;rw[u12,if_neg YR]at r4;refine rP R R (f.slot 6 _ 53 R R (I ⟨6,.data⟩ YR R)) (f.slot 8 _ 55 R R (I ⟨8,.data⟩ YR R)) ?_;refine (lL B _ _ _ _ g q q' _ w4 r2 c9 hq (by have:=(fV g (tR g l J (bm G X) k)).1;have:=(fV g (JQ g l J (bm G X) k)).1;omega)).mono ?_;rintro e w5 ⟨u,u',rfl,hu,d0,Y⟩;refine ⟨_,R,hu,r1.trans (.fst A Y),?_,bw r3 Y (Nat.lt_of_lt_of_le (Nat.lt_of_lt_of_le c7 b8) r1.size) (by intro e;exact V (m5 e).symm),?_⟩
      ·rw[bS F YP,if_pos R,m7 false YP,l5,if_pos R];exact d0
      ·rw[m7 false YP,u12,if_neg YR];exact r4.grown Y (by intro e;exact V (m5 e).symm)
     ·have x1:=f.slot 5 _ 52 R R (I ⟨5,.data⟩ YR R);have x2:=f.slot 9 _ 56 R R (I ⟨9,.data⟩ YR R);exact vM (d:=57) R R R R x1 x2 ⟨_,_,R,x1,x2⟩ (m.same 10 YP YP YP)
     ·exact fL R R (f.slot 0 _ 47 R R (I ⟨0,.data⟩ YR R)) (f.slot 1 _ 48 R R (I ⟨1,.data⟩ YR R)) (rK _ _ _ _ _ a3 YP) R (m.same 11 YP YP YP)
     ·obtain ⟨u,u',x1,x2,x3⟩:=f.slot 10 _ 57 R R (I ⟨10,.data⟩ YR R);have u12:=cz hl F YP;obtain ⟨r1,r2,r3,r4⟩:=m;rw[u12,if_neg YR]at r4;have e9:w4.grownBy (w4.setCells A (k * 2) [u,u']) (S A):=bV (fv _ _);refine kD R R (f.slot 11 _ 58 R R (I ⟨11,.data⟩ YR R)) x1 ic (by simp[x2.one,x3.one]) (eS r3 YT) ⟨r1.trans (.snd B e9),?_,iz r3,?_⟩
      ·rw[m7 false YP,m7 false YP];exact r2.grown e9 c9 (by intro e;exact V (m5 e))
      ·rw[bS F YP,if_pos R];exact r4.set r3 a3 x2 x3
    ·intro listed a w4 f M;have g7:=f.world;have E:=gZ a 61 f.size;rw[f.defers]at E;replace E:a=⟨#[a.eval (.tmp 0),a.eval (.tmp 1),a.eval (.tmp 2),a.eval (.tmp 3),a.eval (.tmp 4),a.eval (.tmp 5),a.eval (.tmp 6),a.eval (.tmp 7),a.eval (.tmp 8),a.eval (.tmp 9),a.eval (.tmp 10),a.eval (.tmp 11),a.eval (.tmp 12),a.eval (.tmp 13),a.eval (.tmp 14),a.eval (.tmp 15),a.eval (.tmp 16),a.eval (.tmp 17),a.eval (.tmp 18),a.eval (.tmp 19),a.eval (.tmp 20),a.eval (.tmp 21),a.eval (.tmp 22),a.eval (.tmp 23),a.eval (.tmp 24),a.eval (.tmp 25),a.eval (.tmp 26),a.eval (.tmp 27),a.eval (.tmp 28),a.eval (.tmp 29),a.eval (.tmp 30),a.eval (.tmp 31),a.eval (.tmp 32),a.eval (.tmp 33),a.eval (.tmp 34),a.eval (.tmp 35),a.eval (.tmp 36),a.eval (.tmp 37),a.eval (.tmp 38),a.eval (.tmp 39),a.eval (.tmp 40),a.eval (.tmp 41),a.eval (.tmp 42),a.eval (.tmp 43),a.eval (.tmp 44),a.eval (.tmp 45),a.eval (.tmp 46),a.eval (.tmp 47),a.eval (.tmp 48),a.eval (.tmp 49),a.eval (.tmp 50),a.eval (.tmp 51),a.eval (.tmp 52),a.eval (.tmp 53),a.eval (.tmp 54),a.eval (.tmp 55),a.eval (.tmp 56),a.eval (.tmp 57),a.eval (.tmp 58),a.eval (.tmp 59),a.eval (.tmp 60)],_⟩:=E;rw[f.base 0 Zh,f.base 1 Zh,f.base 2 Zh,f.base 3 Zh,f.base 4 Zh,f.base 5 Zh,f.base 6 Zh,f.base 7 Zh,f.base 8 Zh,f.base 9 Zh,f.base 10 Zh,f.base 11 Zh,f.base 12 Zh,f.base 13 Zh,f.base 14 Zh,f.base 15 Zh,f.base 16 Zh,f.base 17 Zh,f.base 18 Zh,f.base 19 Zh,f.base 20 Zh,f.base 21 Zh,f.base 22 Zh,f.base 23 Zh,f.base 24 Zh,f.base 25 Zh,f.base 26 Zh,f.base 27 Zh,f.base 28 Zh,f.base 29 Zh,f.base 30 Zh,f.base 31 Zh,f.base 32 Zh,f.base 33 Zh,f.base 34 Zh,f.base 35 Zh,f.base 36 Zh,f.base 37 Zh,f.base 38 Zh,f.base 39 Zh,f.base 40 Zh,f.base 41 Zh,f.base 42 Zh,f.base 43 Zh,f.base 44 Zh,f.base 45 Zh,f.base 46 Zh,f.base 59 Zh,f.base 60 Zh]at E;clear f;generalize a.eval (.tmp 47)=j4 at E;generalize a.eval (.tmp 48)=j5 at E;generalize a.eval (.tmp 49)=j6 at E;generalize a.eval (.tmp 50)=j7 at E;generalize a.eval (.tmp 51)=j8 at E;generalize a.eval (.tmp 52)=j9 at E;generalize a.eval (.tmp 53)=k0 at E;generalize a.eval (.tmp 54)=k5 at E;generalize a.eval (.tmp 55)=k6 at E;generalize a.eval (.tmp 56)=k7 at E;generalize a.eval (.tmp 57)=k8 at E;generalize a.eval (.tmp 58)=l8 at E;simp[v9]at E;subst E;obtain ⟨r1,r2,r3,r4⟩:=g7;rw[M 5 YQ,M 9 YQ,if_pos R,if_pos R]at r2;rw[M 12 YQ,if_pos R]at r4;clear M;go_wp2
     go_roundw
     case rel=>
      refine ⟨k + 1,YP,Zl,a8,?_,r3,?_,b4.apart r1 d1 d2,a0.trans r1⟩
      ·rw[FZ];exact r4
      ·rw[tP];grind
     case measure=>simp[intOf];omega
  ·have:k=n:=by omega
   subst this;obtain ⟨z,z',rfl,_⟩:=id hy;have HH:=au (And.intro hy (And.intro C (And.intro D (And.intro T (And.intro P L)))));clear hy C D T P L;go_wp2
   go_ret
   obtain ⟨hy,C,D,T,P,L⟩:=ae HH;exact ⟨_,_,R,hy,C,D,T,P,L⟩
theorem qB (g:Gu)(G:C2)(n:Nat)(a:Nat->dM)(b:Nat->C2×C2)(X:Nat->C2): ∀k,gM g G n a b X k<=6 * n * k
 | 0=>n7 _
 | k + 1=>by have c:=qB g G n a b X k;have d:=tQ g a (jr g G n a b X k) (bm G (X k)) n;rw[gM,Nat.mul_add,E5];omega
theorem DV (N M B L n c m:Nat)(v:l9)(g:Gu)(G:C2)(X:Nat->C2)(a:Nat->dM)(y:Nat->C2×C2)(w:World)(b7:bU w N M B L n G a y g c)(hv:bj w v m X)(l:wO v m B)(q:wO v m L)(hm:m<=8796093022208)(hn:n<=16)(hc:c<=1000000000000000000):
  n9 Try.prog 11 #[J4 (S ⟨B,0,none⟩),v] w λe w'=> ∃A,e= .returned (J3 (S ⟨A,0,none⟩) m m)/\w.heap.size<=A/\A<w'.heap.size/\(∀j,j<m-> ∃u,w'.cell? ⟨A,j,none⟩=S u/\aS u (gT g G n a y X j))/\
   bU w' N M B L n G a (jr g G n a y X m) g (c + gM g G n a y X m)/\Apart w w' B L:=by
 obtain ⟨gr,gi,O,sv,hG,hg,hL,hS,W,d,h,a3,b1,b2,b3,b4,b5⟩:=b7;obtain ⟨ad,cl,rfl,p⟩:=hv;obtain ⟨i0,hi,a4,a5,a6⟩:=B4 fY;have Hs:=au (ku B L n O c gr gi sv g a y w hG hL hn YP);have H:=au (And.intro hG (And.intro hL (And.intro hS p)));have HO:=au (And.intro W (And.intro d (And.intro h (And.intro l q))));clear hG hL hS p W d h l q;go_enter Try.func11,Try.ntmps11
 go_wp2_with fail
 refine (ae Hs).mono ?_;rintro e C ⟨A1,rfl,h1,h2,h3,h4,h5⟩;have H1:=au (And.intro h3 (And.intro h4 h5));have P:=h4.size;clear h3 h4 h5;go_wp2_with (first
  | (refine wpList_make_full _ rfl _ _ 24 rfl C.heap.size 26 i0 (G1 J0 0 0) 1 Try.underlying24 hi a4 a5 .i64 .i64 _ _ m rfl rfl rfl rfl (by rw[a6];omega) Zj (Nat.le_refl _) ?_;intro w2 Y s))
 obtain ⟨D,b8⟩:=dS Y;rw[Nat.mul_one]at D;clear Y hi a4 a5 a6;have H2:=au (And.intro s D);clear s D;go_loopw [18] (λi wr=> ∃k:Nat,k<=m/\i= J1 J2 k/\cQ wr A1 n (jr g G n a y X k)/\wr.there A1 0 (n * 2)/\de wr B (G1 J0 gr gi) (J3 (S ⟨L,0,none⟩) n O) sv g (c + gM g G n a y X k)/\bn wr sv n a/\Apart w wr B A1/\C.heap.size<wr.heap.size/\wr.there C.heap.size 0 m/\ ∀j,j<k-> ∃u,wr.cell? ⟨C.heap.size,j,none⟩=S u/\aS u (gT g G n a y X j))
  (λi _=>m - (intOf i).toNat)
 case atStart=>obtain ⟨s,D⟩:=ae H2;obtain ⟨h3,h4,h5⟩:=ae H1;obtain ⟨hG,hL,hS,p⟩:=ae H;have c7:=s.size;have a0:=h4.grown s P YR;exact ⟨0,Nat.zero_le _,R,h3.grown s YR,bw h5 s h2 YR,hG.below a0 YP,hS.below a0,.low _ _ a0,b8,D,λj Z=>YP⟩
 case round=>
  obtain ⟨k,hk,rfl,q1,q2,q3,q4,t,q6,K,E⟩:=hrel;obtain ⟨W,d,h,l,q⟩:=ae HO;obtain ⟨a1,Q,F,p⟩:=ae H;have b9:6 * n * k<=6 * 16 * 8796093022208:=Nat.mul_le_mul YP YP;have c1:=qB g G n a y X k;by_cases a2:k<m
  ·have c6:(k:Int)<(m:Int):=by omega
   obtain ⟨b,c9,u,rfl,hb,a7,hu⟩:=p k a2;obtain ⟨x,x',rfl,_⟩:=id hu;have d0:=t.cell a7 (l YP _ _ _ _ R) YS;have c2:=au (rH B A1 n (c + gM g G n a y X k) n gr gi x x' _ sv g G (X k) a (jr g G n a y X k) wr q3 hg hu q4 d (F.off h1) q1 q2 YP YP YP hn YP);have HQ:=au (And.intro t (And.intro K E));clear q1 q2 q3 q4 t K E a7 hu p W d h l q a1 Q F b9 c1;go_wp2_with fail
   refine (ae c2).mono ?_;rintro e w3 ⟨r,r',rfl,hy,s1,s2,s3,s4,s5⟩;obtain ⟨t,K,E⟩:=ae HQ;have c3:=Nat.lt_of_lt_of_le q6 s5.size;have T:=s5.there K q6 YP YP;have a8:(w3.cell? ⟨C.heap.size,k,none⟩).isSome=true:=by have:=(T k a2).1;rwa[Nat.zero_add]at this
   have d1:w3.frozen? ⟨C.heap.size,k,none⟩=false:=by have:=(T k a2).2;rwa[Nat.zero_add]at this
   obtain ⟨uo,c4⟩:=o6.1 a8;have a9: ∀j,j<k-> ∃u,w3.cell? ⟨C.heap.size,j,none⟩=S u/\aS u (gT g G n a y X j):=λj Z=>by obtain ⟨v,I,J⟩:=E j Z;exact ⟨v,s5.cell I (by show C.heap.size≠B;omega) (by show C.heap.size≠A1;omega),J⟩
   have H3:=au (And.intro hy (And.intro s1 (And.intro s2 (And.intro s3 (And.intro s4 (And.intro (t.trans s5) (And.intro T a9)))))));clear hy s1 s2 s3 s4 s5 t K T E a9 a8;have d2:=aW;go_wp2
   go_roundw
   case rel=>
    obtain ⟨hy,s1,s2,s3,s4,s5,K,E⟩:=ae H3;obtain ⟨W,d,h,l,q⟩:=ae HO;obtain ⟨a1,Q,F,p⟩:=ae H;have z:w3.grownBy (w3.setCell ⟨C.heap.size,k,none⟩ (G1 J0 r r')) (S C.heap.size):=bV (o:=k) (cs:= [G1 J0 r r']) (fv _ _);refine ⟨k + 1,YP,Zl,s1.grown z YS,bw s2 z YP YS,?_,s4.apart (.snd B z) d (F.off P),s5.own (.snd B z) P,Nat.lt_of_lt_of_le c3 z.size,dK K _ _,λj Z=> ?_⟩
    ·have:=s3.grown z YP YS;rw[Nat.add_assoc]at this;exact this
    ·by_cases c5:j=k
     ·subst c5;exact ⟨_,iV c4,hy⟩
     ·obtain ⟨v,I,J⟩:=E j YP;refine ⟨v,?_,J⟩;rw[gn YR];exact I
   case measure=>simp[intOf];omega
  ·have:k=m:=by omega
   subst this;have b0:=Q.apart t YP YP YP;have d3:=t.size;have b6:=au (uN B L n O gr gi A1 n a y (jr g G n a y X k) wr (λj v hv=>q3.2 j v (by have Z:j<2:=YS;rcases (by omega:j=0\/j=1)with rfl | rfl<;>exact hv)) b0 q1 YP a3 hn YP);have HQ:=au (And.intro q3 (And.intro q4 (And.intro t (And.intro K E))));clear q1 q2 q3 q4 t K E b0 a1 Q F p W d h l q;go_wp2_with fail;refine (ae b6).mono ?_;rintro e w4 ⟨rfl,V,f⟩;have H4:=au (And.intro V f);clear V f;go_wp2;go_ret
   obtain ⟨V,f⟩:=ae H4;obtain ⟨q3,q4,t,K,E⟩:=ae HQ;obtain ⟨W,d,h,l,q⟩:=ae HO;have d4:=f.size;refine ⟨C.heap.size,R,P,YP,λj Z=> ?_,⟨gr,gi,O,sv,q3.grown f YP (by simp_all),hg,V,q4.apart (.snd B f) d h,W,d,h,a3,b1,b2,b3,b4,YP⟩,?_⟩
   ·obtain ⟨v,I,J⟩:=E j Z;exact ⟨v,f.cell I (by intro e;have:=m5 e;simp only at this;omega),J⟩
   ·exact ⟨f.os.trans t.os,f.tape.trans t.tape,f.output.trans t.output,YP,λj Z j1 j2=>(f.block j YP (by simp_all)).trans (t.block j Z j1 YP)⟩
theorem xX:(Try.prog.info? 70).map (λi=>(i.zero,i.size,i.bytes))=S (S (.agg #[c0,c0,c0,c0,c0]),5,80):=Zh
theorem Mc (d:Nat)(a:Option x5)(n c:Nat)(w:World):(I3 (d + 1) 27 (.slice a n c) (.slice none 0 0)).run Try.prog w= .ok a.isNone w:=by cases a<;>simp[I3,run_underlying Try.underlying27]
theorem Ah (a:Option x5)(n c:Nat)(w:World):(A8 .eql 27 (.slice a n c) (.slice none 0 0)).run Try.prog w= .ok (.bool a.isNone) w:=by have h:(Op.equal 27 (.slice a n c) (.slice none 0 0)).run Try.prog w= .ok a.isNone w:=Mc 9999 a n c w;simp[A8,h]
theorem bn.cells{c:Nat}{z:Option x5}(h:bn w v n d)(s:v= .slice z n c)(a:x5)(F:z=S a):
  ∃f:List Value,f.length=n * 5/\(∀j u,f[j]? =S u->w.cell? (a.add j)=S u)/\(∀u∈f,u.oneCell'=true)/\ ∀i,i<n-> ∃l m o p q,(∀j x,[l,m,o,p,q][j]? =S x->f[i * 5 + j]? =S x)/\
  cY l/\cY m/\cY o/\cY p/\cY q/\aS l (d i).b0/\aS m (d i).b1/\aS o (d i).b2/\aS p (d i).a1/\aS q (d i).a2:=by
 obtain ⟨A,G,e,B⟩:=h;obtain ⟨rfl,rfl⟩:z=A/\c=G:=YS;subst F;by_cases H:n=0
 ·subst H;simp
 ·obtain ⟨b,_,_,_,_,_,I,_⟩:=B 0 YP;obtain rfl:=m5 I;have k: ∀j,j<n * 5-> ∃u,w.cell? ⟨b,j,none⟩=S u/\u.oneCell'=true:=λj r=>by
   obtain ⟨C,l,m,o,p,q,D,_,E,Q,T,V,W,X,J,K,L,M,N⟩:=B (j / 5) YP;have:C=b:=by simp at D;omega
   subst this;have Y:j % 5<5:=YP;have g:=E (j % 5);rw[show j / 5 * 5 + j % 5=j by omega]at g;rcases (by omega:j % 5=0\/j % 5=1\/j % 5=2\/j % 5=3\/j % 5=4)with e | e | e | e | e<;>rw[e]at g
   ·exact ⟨_,g _ R,J.one⟩
   ·exact ⟨_,g _ R,K.one⟩
   ·exact ⟨_,g _ R,L.one⟩
   ·exact ⟨_,g _ R,M.one⟩
   ·exact ⟨_,g _ R,N.one⟩
  refine ⟨cellsOf w b (n * 5),uG _ _ _,λj u t=> ?_,λu t=> ?_,λi O=> ?_⟩
  ·have r:j<n * 5:=by have:=(List.getElem?_eq_some_iff.1 t).1;simpa[cellsOf]using this
   obtain ⟨v,s,_⟩:=k j r;rw[lJ r s]at t;rw[G7,z8,s];exact t
  ·obtain ⟨j,r,rfl⟩:=List.mem_iff_getElem.1 t;have y:j<n * 5:=by simpa[cellsOf]using r
   obtain ⟨v,s,Z⟩:=k j y;have:=lJ y s;grind
  ·obtain ⟨C,l,m,o,p,q,D,_,E,P⟩:=B i O;have:C=b:=by simp at D;omega
   subst this;refine ⟨l,m,o,p,q,λj x g=> ?_,P⟩;have r:j<5:=YS;exact lJ YP (E j x g)
theorem yx (v:l9)(n:Nat)(l:Nat->dM)(w:World)(o:bn w v n l)(Z:n<=16):
  n9 Try.prog 27 #[v] w λe y=> ∃f c,e= .returned (.slice f n c)/\bn y (.slice f n c) n l/\NI (.slice f n c) n w.heap.size y.heap.size/\Below w.heap.size w y:=by
 obtain ⟨L,s,z,A,B⟩:=B4 xX;obtain ⟨f,c,rfl,_⟩:=id o;cases f with
 | none=>
  have C:n=0:=by
   cases n with
   | zero=>rfl
   | succ n=>obtain ⟨f,c,e,M⟩:=o;obtain ⟨b,_,_,_,_,_,e2,_⟩:=M 0 YP;grind
  subst C;clear o;have N:=Ah none 0 c;go_enter Try.func27,Try.ntmps27
  go_wp2
  go_ret
  exact ⟨none,0,R,⟨none,0,R,λi s=>YP⟩,λh=>YP,o3 _ _⟩
 | some a=>
  obtain ⟨p,O,F,G,H⟩:=o.cells R a R;have t:=au (And.intro F (And.intro G H));clear F G H o;have N:=Ah (some a) n c;go_enter Try.func27,Try.ntmps27
  go_wp2_with (first
   | (at_builtin;refine wpList_append_own _ rfl _ _ 27 rfl w.heap.size 70 L (.agg #[c0,c0,c0,c0,c0]) 5 80 Try.underlying27 s z A B rfl YQ _ 0 [] rfl (World.ownsRow_made w #[] 0 (Nat.le_refl _) YP rfl) a n c p rfl O (λj u I=>by rw[World.cell?_alloc_lt _ _ _ (World.block_lt_of_cell? _ _ ((ae t).1 j u I))];exact (ae t).1 j u I) (ae t).2.1 Zj YP YR ?_;intro v' P d D q)
   | go_in)
  go_ret
  rw[Nat.zero_add,List.nil_append]at d;have r:=((o3 _ w).alloc (Nat.le_refl _) (o2 #[] 70)).grown D YR (λk e=>Nat.le_of_eq (m5 e));rcases id d.2 with ⟨Q,_⟩ | ⟨g,J,T,rfl,hb,hg,_⟩
  ·exact absurd (q.1 Q).1 (by intro h;cases h)
  ·have E:g<P.heap.size:=by grind
   refine ⟨some ⟨g,0,none⟩,J,R,⟨_,J,R,λi s=> ?_⟩,λ_ b V m c' e=> ?_,r⟩
   ·obtain ⟨u0,u1,u2,u3,u4,W,X⟩:=(ae t).2.2 i s;refine ⟨g,u0,u1,u2,u3,u4,R,E,λj x Y=> ?_,X⟩;have K:=d.cells (g:=g) R (i * 5 + j) x (W j x Y);rw[G7,Nat.zero_add]at K;exact K
   grind
theorem vh (r i n:Nat)(v:l9)(g:Gu)(G:C2)(l:Nat->dM)(w:World)(V:cY (G1 J0 r i))(hG:aS (G1 J0 r i) G)(J:bn w v n l)(X:n<=16):
  n9 Try.prog 8 #[.agg #[G1 J0 r i,v],Gv g] w λe d=> ∃B L,e= .returned (.tuple #[J4 (S ⟨B,0,none⟩),J1 J2 0])/\bU d w.heap.size d.heap.size B L n G l aI g 0/\Below w.heap.size w d:=by
 obtain ⟨z,c,rfl,_⟩:=id J;have Y:=au (λd (h:bn d (.slice z n c) n l)=>uL r i n (.slice z n c) l d V h X);have K:=au J;have Hc:=au (λd (h:bn d (.slice z n c) n l)=>yx (.slice z n c) n l d h X);clear J V;obtain ⟨D,E,F⟩:=g;unfold Gv;dsimp only;go_enter Try.func8,Try.ntmps8
 go_wp2_with fail
 obtain ⟨W,s⟩: ∃W,W=(w.alloc (o2 #[G1 J0 r i,.slice z n c] 29)).alloc (o2 #[.bool D,.bool E,.bool F] 33):=⟨_,R⟩;rw[<-s];have t:Below w.heap.size w W:=by rw[s];exact ((o3 _ _).alloc (n7 _) _).alloc YR _
 have a0:W.heap.size=w.heap.size + 2:=by rw[s];simp
 have Z:W.cell? ⟨w.heap.size,0,none⟩=S (G1 J0 r i):=by rw[s];go_simp
 have m1:W.cell? ⟨w.heap.size,1,none⟩=S (.slice z n c):=by rw[s];go_simp
 have m2:W.cell? ⟨w.heap.size + 1,0,none⟩=S (.bool D):=by rw[s];go_simp
 have m3:W.cell? ⟨w.heap.size + 1,1,none⟩=S (.bool E):=by rw[s];go_simp
 have m4:W.cell? ⟨w.heap.size + 1,2,none⟩=S (.bool F):=by rw[s];go_simp
 clear s;refine (ae Y W ((ae K).below t)).mono ?_;rintro e k ⟨B,L,rfl,a1,a2,a3,m,M,A,u,a⟩;have n0:=(a.cell YS).trans Z;have n1:=(a.cell YS).trans m1;have n2:=(a.cell YS).trans m2;have n3:=(a.cell YS).trans m3;have n4:=(a.cell YS).trans m4;have n5:k.cell? ⟨B,0,none⟩=S (G1 J0 r i):=A 0 _ R;have n6:k.cell? ⟨B,1,none⟩=S (J3 (S ⟨L,0,none⟩) n n):=A 1 _ R;have a4:=a.size;have H1:=au (And.intro ((ae K).below (t.trans (a.mono YP))) (And.intro u (t.trans (a.mono YP))));clear A u a t Z m1 m2 m3 m4 Y K;have Hd:=au ((ae H1).1.below (dJ k k.heap.size));go_wp2_with fail
 go_region_held3 (λd=>d.cell? ⟨w.heap.size,0,none⟩=S (G1 J0 r i)/\d.cell? ⟨w.heap.size,1,none⟩=S (.slice z n c)/\d.cell? ⟨w.heap.size + 1,0,none⟩=S (.bool D)/\d.cell? ⟨w.heap.size + 1,1,none⟩=S (.bool E)/\d.cell? ⟨w.heap.size + 1,2,none⟩=S (.bool F)/\d.cell? ⟨B,0,none⟩=S (G1 J0 r i)/\d.cell? ⟨B,1,none⟩=S (J3 (S ⟨L,0,none⟩) n n)) (go_keep)
  ((go_at_call 27;refine (ae Hc _ (ae Hd)).mono ?_;rintro e y ⟨o,H,rfl,N,O,f⟩;have k0:=(f.cell (by first | exact m | (show w.heap.size<k.heap.size;omega) | (show w.heap.size + 1<k.heap.size;omega))).trans n0;have k1:=(f.cell (by first | exact m | (show w.heap.size<k.heap.size;omega) | (show w.heap.size + 1<k.heap.size;omega))).trans n1;have k2:=(f.cell (by first | exact m | (skip;omega) | (show w.heap.size + 1<k.heap.size;omega))).trans n2;have k3:=(f.cell (by first | exact m | (skip;omega) | (show w.heap.size + 1<k.heap.size;omega))).trans n3;have k4:=(f.cell (by first | exact m | (skip;omega) | (show w.heap.size + 1<k.heap.size;omega))).trans n4;have k5:=(f.cell (by assumption)).trans n5;have k6:=(f.cell (by assumption)).trans n6))
 go_wp2
 go_ret2
 obtain ⟨_,u,I⟩:=ae H1;have p:Below k.heap.size k y:=(dJ k _).trans f;have a5:=p.size;have C:NI (.slice o n H) n k.heap.size y.heap.size:=O;have P:=I.size;have Q:=m9 y (o2 #[G1 J0 r i,J3 (S ⟨L,0,none⟩) n n,G1 J0 r i,.slice o n H,.bool D,.bool E,.bool F,.int .u64 0] 81) none;have q: ∀j x,[G1 .f64 r i,J3 (S ⟨L,0,none⟩) n n,G1 J0 r i,.slice o n H,.bool D,.bool E,.bool F,.int .u64 0][j]? =S x->(y.alloc (o2 #[G1 J0 r i,J3 (S ⟨L,0,none⟩) n n,G1 J0 r i,.slice o n H,.bool D,.bool E,.bool F,.int .u64 0] 81)).cell? ⟨y.heap.size,0 + j,none⟩=S x:=YR;refine ⟨y.heap.size,L,R,⟨r,i,n,.slice o n H,⟨λj hj=> ?_,q⟩,hG,?_,N.below ((o3 _ y).alloc (n7 _) _),?_,C.off YP,C.off YP,YP,YP,YR,YP,YT,n7 _⟩,?_⟩
 ·refine ⟨?_,?_⟩
  ·rcases (by omega:j=0\/j=1\/j=2\/j=3\/j=4\/j=5\/j=6\/j=7)with rfl | rfl | rfl | rfl | rfl | rfl | rfl | rfl<;>rw[q _ _ R]<;>rfl
  simp
 ·exact (u.below p M).grown Q YP YR
 ·intro h0 b T mm cc e;have:=C h0 b T mm cc e;simp;omega
 ·exact (I.trans (p.mono P)).trans ((o3 _ y).alloc YP _)
theorem uI {a:Nat}(h:bU w s Y B L n z d c X a):
  n9 Try.prog 12 #[J4 (S ⟨B,0,none⟩)] w λe b=>e= .returned (.int .u64 a)/\b=w:=by
 obtain ⟨i,j,f,k,g,_⟩:=h;exact sU B a _ _ _ X w g
theorem Jj {f:Nat}(h:bU w s Y B L n z d c X f)(g:n<=16):
  n9 Try.prog 14 #[J4 (S ⟨B,0,none⟩)] w λe a=> ∃A,e= .returned (J3 (S ⟨A,0,none⟩) n n)/\w.heap.size<=A/\A<a.heap.size/\cQ a A n c/\Below w.heap.size w a:=by
 obtain ⟨i,j,b,k,l,v,m,x,y,C,D,o,E,F,G,H,I⟩:=h;exact (ku B L n b f i j k X d c w l m g YP).mono λ_ _ ⟨A,p,q,r,t,u,_⟩=>⟨A,p,q,r,t,u⟩
theorem bU.below {w':World}{a:Nat}(h:bU w s Y B L n z d c X a)(b:Below w.heap.size w w'):bU w' s Y B L n z d c X a:=by have e:=h.lt;exact h.apart (.low Y Y b) YP YP
theorem bU.still{a:Nat}(h:bU w s Y B L n z d c X a)(b:Still w W):bU W s Y B L n z d c X a:=h.below (b _)
theorem xj(f:aS r z)(g:aS v z)(w:World):n9 Try.prog 29 #[r,v] w λe h=>e= .returned (.bool true)/\h=w:=by obtain ⟨a,b,rfl,i,j,k,l⟩:=f;obtain ⟨c,d,rfl,m,n,o,p⟩:=g;exact AI a b c d i j m n (k.trans o.symm) (l.trans p.symm) w
theorem jB (A m c y:Nat)(p:Option x5)(X:Nat->C2)(w:World)(E:m<=8796093022208)(h: ∀j,j<m-> ∃u,w.cell? ⟨A,j,none⟩=S u/\aS u (X j))(q: ∀j,j<m-> ∃b u,p=S ⟨b,0,none⟩/\w.cell? ⟨b,j,none⟩=S u/\aS u (X j)):
  n9 Try.prog 10 #[J3 (S ⟨A,0,none⟩) m c,.slice p m y] w λe n=>e= .returned (.bool true)/\Still w n:=by
 have H:=au h;have z:=au q;clear h q;go_enter Try.func10,Try.ntmps10
 go_wp2_with fail
 go_loopw [5] (λi wr=> ∃k:Nat,k<=m/\i= J1 J2 k/\Still w wr) (λi _=>m - (intOf i).toNat)
 case atStart=>exact ⟨0,Nat.zero_le _,R,Still.refl _⟩
 case round=>
  obtain ⟨k,F,rfl,d⟩:=hrel;by_cases g:k<m
  ·have r:(k:Int)<(m:Int):=by omega
   have B:(0:Int)<=(k:Int):=YP;obtain ⟨u,s,o⟩:=ae H k g;obtain ⟨t,G,rfl,l,f⟩:=ae z k g;obtain ⟨a,b,rfl,_⟩:=id o;obtain ⟨v,x,rfl,_⟩:=id f;have I:wr.cell? ⟨A,k,none⟩=S (G1 J0 a b):=by rw[d.cell];exact s
   have J:wr.cell? ⟨t,k,none⟩=S (G1 J0 v x):=by rw[d.cell];exact l
   have C:=au (xj o f);have D:=au d;clear s l o f d;go_wp2_with fail
   go_region_held3 (λn=>n.cell? ⟨A,k,none⟩=S (G1 J0 a b)/\n.cell? ⟨t,k,none⟩=S (G1 J0 v x)) (go_keep)
    ((go_at_call 29;refine (ae C _).mono ?_;rintro e K ⟨rfl,rfl⟩))
   go_wp2
   go_roundw
   case rel=>exact ⟨k + 1,YP,Zl,(ae D).trans (dJ _)⟩
   case measure=>simp[intOf];omega
  ·have:k=m:=by omega
   subst this;go_wp2
   go_ret
   simp_all
theorem wy (w:World)(n:Nat):Still w (w.drewN n):=λ_=>⟨R,R,R,n7 _,λ_ _=>rfl⟩
theorem yK (A o n c y:Nat)(u:Nat->C2×C2)(w:World)(L:n<=16)(h:cQ w A n u)(v:cQ w o n u):
  Calls Try.prog 13 #[J3 (S ⟨A,0,none⟩) n c,J3 (S ⟨o,0,none⟩) n y] w λe z=>e= .returned (.bool true)/\Still w z:=by
 have H:=au h;have B:=au v;clear h v;go_enter Try.func13,Try.ntmps13
 go_wp2_with fail
 go_loopw [5] (λi wr=> ∃k:Nat,k<=n/\i= J1 J2 k/\Still w wr) (λi _=>n - (intOf i).toNat)
 case atStart=>exact ⟨0,Nat.zero_le _,R,Still.refl _⟩
 case round=>
  obtain ⟨k,M,rfl,f⟩:=hrel;by_cases m:k<n
  ·have x:(k:Int)<(n:Int):=by omega
   have C:(0:Int)<=(k:Int):=YP;obtain ⟨p,q,r,s,t⟩:=ae H k m;obtain ⟨N,O,g,j,l⟩:=ae B k m;obtain ⟨a,b,rfl,_⟩:=id s;obtain ⟨D,E,rfl,_⟩:=id j;obtain ⟨d,e,rfl,_⟩:=id t;obtain ⟨F,G,rfl,_⟩:=id l;have P:wr.cell? ⟨A,k * 2,none⟩=S (G1 J0 a b):=by rw[f.cell];exact r 0 _ R
   have Q:wr.cell? ⟨o,k * 2,none⟩=S (G1 J0 D E):=by rw[f.cell];exact g 0 _ R
   have T:wr.cell? ⟨A,k * 2 + 1,none⟩=S (G1 J0 d e):=by rw[f.cell];exact r 1 _ R
   have V:wr.cell? ⟨o,k * 2 + 1,none⟩=S (G1 J0 F G):=by rw[f.cell];exact g 1 _ R
   have I:=au (xj s j);have J:=au (xj t l);have K:=au f;clear r g s j t l f;go_wp2_with fail
   go_quiet (first | (go_at_call_of 29 (Value.complex FloatKind.f64 a b);exact Calls.quiet_of_same (ae I _)) | (go_at_call_of 29 (Value.complex FloatKind.f64 d e);exact Calls.quiet_of_same (ae J _)))
   go_wp2
   go_roundw
   case rel=>exact ⟨k + 1,YP,Zl,(ae K).trans (wy _ _)⟩
   case measure=>simp[intOf];omega
  ·have:k=n:=by omega
   subst this;go_wp2
   go_ret
   simp_all
def Dy (b:Nat)(k e:Int):Prop:=Is b ((k:Rat) * p2 e)
theorem xy{k e:Int}(d:Dy n k e)(f:Dy B l e)(b: -9007199254740992<k - l)(c:k - l<9007199254740992)(g: -1074<=e)(a:e<=0): ∃r,o5 .sub .f64 n B=S r/\Dy r (k - l) e:=
 QV d f YS (mK _ _ b c g) (nh _ _ b c a)
theorem xu{k e:Int}(d:Dy n k e)(f:Dy B l e)(b: -9007199254740992<k + l)(c:k + l<9007199254740992)(g: -1074<=e)(a:e<=0): ∃r,o5 .add .f64 n B=S r/\Dy r (k + l) e:=
 Qu d f YS (mK _ _ b c g) (nh _ _ b c a)
theorem sN{k e f:Int}(d:Dy n k e)(g:Dy B l f)(b: -9007199254740992<k * l)(c:k * l<9007199254740992)(h: -1074<=e + f)(a:e + f<=0): ∃r,o5 .mul .f64 n B=S r/\Dy r (k * l) (e + f):=
 QK d g (by rw[Rat.intCast_mul,dx];grind) (mK _ _ b c h) (nh _ _ b c a)
theorem zx{e:Int}(c:Dy n l e)(a: -9007199254740992<l)(b:l<9007199254740992)(g: -1071<=e)(d:e<=0): ∃r,o5 .quo .f64 n 4620693217682128896=S r/\Dy r l (e - 3):=by have f:Is 4620693217682128896 (p2 3):=Ei 3 YP;have h:=dI 3;refine Oi c f YS ?_ (mK _ _ a b YP) (nh _ _ a b YP);rw[G2,<-dx,show e - 3 + 3=e by omega]
theorem zv{e:Int}(c:Dy n l e)(a: -9007199254740992<l)(b:l<9007199254740992)(g: -1071<=e)(d:e<=0): ∃r,o5 .quo .f64 n 4611686018427387904=S r/\Dy r l (e - 1):=by have f:Is 4611686018427387904 (p2 1):=Ei 1 YP;have h:=dI 1;refine Oi c f YS ?_ (mK _ _ a b YP) (nh _ _ a b YP);rw[G2,<-dx,show e - 1 + 1=e by omega]
theorem sO{e:Int}(a:Dy n l e):Dy (r9 .f64 n) (-l) e:=by have:=LA a;unfold Dy;rw[x7,Rat.neg_mul];exact this
theorem Du (n:Int)(a: -9007199254740992<n)(b:n<9007199254740992):Dy (floatOfInt .f64 n) n 0:=by have:=EB n a b;unfold Dy;rw[oO,E7];exact this
theorem Dt:Dy 4606056518893174784 7 (-3):=by refine ⟨YQ,false,7881299347898368, -53,YQ,?_⟩;unfold vl sg;rw[if_neg YQ];rw[show (-3:Int)=50 + (-53)from rfl,dx,show (50:Int)=((50:Nat):Int)from rfl,ef];grind
theorem xx{k e f:Int}(a:Dy n k e)(b:Dy B l f):cY (G1 J0 n B):=
 ⟨n,B,R,a.1,b.1,by have c:=Di a;have d:=Di b;omega⟩
theorem lO (b:Nat)(m:b<256): ∃r i,Dy r ((b:Int) % 16 - 7) (-3)/\Dy i ((b:Int) / 16 - 7) (-3)/\ ∀w,n9 Try.prog 49 #[.int .u8 b] w λe l=>e= .returned (G1 J0 r i)/\l=w:=by
 obtain ⟨p,a,c⟩:=zx (Du ((b:Int) % 16) YP YP) YP YP YP YP;obtain ⟨r,d,f⟩:=xy c Dt YP YP YP YP;obtain ⟨q,g,h⟩:=zx (Du ((b:Int) / 16) YP YP) YP YP YP YP;obtain ⟨i,j,k⟩:=xy h Dt YP YP YP YP;refine ⟨r,i,f,k,λw=> ?_⟩;have n:=gR a;have o:=gR d;have s:=gR g;have t:=gR j;clear a d g j c f h k;go_enter Try.func49,Try.ntmps49
 go_wp2
 go_ret
 simp
theorem vi{k e:Int}(b:Dy n k e)(c:Dy B l e)(m: -9007199254740992<k)(o:k<9007199254740992)(p: -9007199254740992<l)(q:l<9007199254740992)(d: -1071<=e)(a:e<=0):
  ∃r i,Dy r k (e - 1)/\Dy i l (e - 1)/\ ∀w,n9 Try.prog 48 #[G1 J0 n B] w λe s=>e= .returned (G1 J0 r i)/\s=w:=by
 obtain ⟨r,f,g⟩:=zv b m o d a;obtain ⟨i,h,j⟩:=zv c p q d a;refine ⟨r,i,g,j,λw=> ?_⟩;have t:=gR f;have u:=gR h;clear f h g j b c;go_enter Try.func48,Try.ntmps48
 go_wp2
 go_ret
 simp
theorem ts (a b:Int)(c: -100<=a)(d:a<=100)(e: -100<=b)(f:b<=100): -10000<=a * b/\a * b<=10000:=by have g:(100 - a) * (100 - b)>=0:=A2 YP YP;have h:(100 - a) * (100 + b)>=0:=A2 YP YP;have i:(100 + a) * (100 - b)>=0:=A2 YP YP;have j:(100 + a) * (100 + b)>=0:=A2 YP YP;grind
theorem HS {b:Nat}{q r s:Int}(c:Dy n l (-4))(d:Dy b q (-4))(f:Dy B r (-4))(g:Dy L s (-4))(h: -100<=l)(a:l<=100)(i: -100<=q)(j:q<=100)(k: -100<=r)(m:r<=100)(o: -100<=s)(p:s<=100):
  ∃t u,(∀w,n9 Try.prog 43 #[G1 J0 n b,G1 J0 B L] w λe y=>e= .returned (G1 J0 t u)/\y=w)/\Dy t (l * r - q * s) (-8)/\Dy u (l * s + q * r) (-8):=by
 have T:=ts l r h a k m;have V:=ts q s i j o p;have W:=ts l s h a o p;have X:=ts q r i j k m;obtain ⟨z,A,C⟩:=sN c f YP YP YP YP;obtain ⟨D,E,F⟩:=sN d g YP YP YP YP;obtain ⟨v,G,H⟩:=xy C F YP YP YP YP;obtain ⟨I,J,K⟩:=sN c g YP YP YP YP;obtain ⟨M,N,O⟩:=sN d f YP YP YP YP;obtain ⟨x,P,Q⟩:=xu K O YP YP YP YP;exact ⟨v,x,λw=>vD n b B L z D I M v x w w w w w w w (gR A w) (gR E w) (gR G w) (gR J w) (gR N w) (gR P w),H,Q⟩
theorem HT {b:Nat}{q r s e:Int}(i:Dy n l e)(j:Dy b q e)(k:Dy B r e)(m:Dy L s e)(x: -100<=l)(o:l<=100)(y: -100<=q)(z:q<=100)(A: -100<=r)(C:r<=100)(D: -100<=s)(E:s<=100)(c: -1074<=e)(a:e<=0):
  ∃d f,(∀w,(A8 .add 26 (G1 J0 n b) (G1 J0 B L)).run Try.prog w= .ok (G1 J0 d f) w)/\Dy d (l + r) e/\Dy f (q + s) e:=by
 obtain ⟨g,p,t⟩:=xu i k YP YP c a;obtain ⟨h,u,v⟩:=xu j m YP YP c a;exact ⟨g,h,λw=>run_complex_sum w .add (.inl R) _ .f64 n b B L g h (by simp[cSumBits,p,u]),t,v⟩
theorem gv {a:Func}(h:a.results= #[.cell n t]){b:Nat}(c:y.getD n U= J4 (S ⟨b,0,none⟩))(d:(loadVar t ⟨b,0,none⟩).run Try.prog w= .ok v w):
  (G5 a y).run Try.prog w= .ok v w:=by
 rw[o8]at c;simp[G5,h,c,asAddr,d]
theorem HW:cY (G1 J0 4607182418800017408 0):=⟨_,_,R,YP,YP,YQ⟩
theorem KR:cY (G1 J0 4598175219545276416 13826050856027422720):=⟨_,_,R,YP,YP,YQ⟩
theorem wh (b c d:Nat)(u:b<256)(A:c<256)(B:d<256)(w:World):n9 Try.prog 21 #[.int .u8 b,.int .u8 c,.int .u8 d] w
  λe f=> ∃C D E G H I,e= .returned (.agg #[G1 J0 4607182418800017408 0,G1 J0 C D,G1 J0 4598175219545276416 13826050856027422720,G1 J0 E G,G1 J0 H I])/\cY (G1 J0 C D)/\cY (G1 J0 E G)/\cY (G1 J0 H I)/\Below w.heap.size w f:=by
 obtain ⟨x,x',J,i,Ex⟩:=lO b u;obtain ⟨y,y',K,k,L⟩:=lO c A;obtain ⟨z,V,M,l,N⟩:=lO d B;obtain ⟨p,p',r,g,O⟩:=vi J i YP YP YP YP YP YP;obtain ⟨q,q',t,h,Eq⟩:=vi K k YP YP YP YP YP YP;obtain ⟨s,W,Es,P,n⟩:=HT r g t h YP YP YP YP YP YP YP YP YP YP;obtain ⟨m,X,Q,T,o⟩:=HS r g t h YP YP YP YP YP YP YP YP;have F:=au (And.intro (xx (sO M) (sO l)) (And.intro (xx (sO P) (sO n)) (xx T o)));have Y:=au Ex;have Z:=au L;have H3:=au N;have H4:=au O;have H5:=au Eq;have H6:=au Q;have hn: ∀a b w,(Op.unary .neg (G1 J0 a b)).run Try.prog w= .ok (G1 J0 (r9 .f64 a) (r9 .f64 b)) w:=λ_ _ _=>rfl;clear J i K k M l r g t h P n T o Ex L N O Eq Q u A B;have a0:=aW;go_enter Try.func21,Try.ntmps21
 go_wp2_with fail
 refine (ae Y _).mono ?_;rintro e f ⟨rfl,rfl⟩;go_wp2_with fail
 refine (ae H4 _).mono ?_;rintro e f ⟨rfl,rfl⟩;go_wp2_with fail
 refine (ae Z _).mono ?_;rintro e f ⟨rfl,rfl⟩;go_wp2_with fail
 refine (ae H5 _).mono ?_;rintro e f ⟨rfl,rfl⟩;go_wp2_with fail
 refine (ae H3 _).mono ?_;rintro e f ⟨rfl,rfl⟩;go_wp2_with fail
 refine (ae H6 _).mono ?_;rintro e f ⟨rfl,rfl⟩;go_wp2
 refine bodyPost_ret (gv R (b:=w.heap.size) R (B5 _ w.heap.size 0 70 [G1 J0 4607182418800017408 0,G1 J0 (r9 .f64 z) (r9 .f64 V),G1 J0 4598175219545276416 13826050856027422720,G1 J0 (r9 .f64 s) (r9 .f64 W),G1 J0 m X] _ ?_ Try.underlying70 R kz)) R ?_
 ·intro j v hv;simp_all
 ·obtain ⟨f1,f2,f3⟩:=ae F;exact ⟨_,_,_,_,_,_,R,f1,f2,f3,(o3 _ _).alloc (n7 _) _⟩
theorem cJ (w:World)(a:x5)(u:l9)(b:n≠a.block):(w.setCell a u).heap[n]? =w.heap[n]? :=by unfold C7;grind
theorem vk:(Try.prog.info? 46).map (·.size)=S 4:=Zh
theorem bj.CY{X:Nat->C2}(h:bj w v n X)(a:Below w.heap.size w W):bj W v n X:=h.apart (.low w.heap.size w.heap.size a) (h.off (n7 _)) (h.off (n7 _))
theorem Il (w:World):n9 Try.prog 6 #[J1 J2 1] w λe a=>e= .returned (.float .f64 9218868437227405312)/\a=w:=by
 have b:=ig;go_enter Try.func6,Try.ntmps6
 go_wp2
 go_ret
 simp
def pf (u:l9):Prop:= ∃r i,u= G1 J0 r i/\r<18446744073709551616/\i<18446744073709551616/\ ¬max (cls r) (cls i)<3
theorem AZ (a b:Nat)(c:a<18446744073709551616)(d:b<18446744073709551616)(h: ¬max (cls a) (cls b)<3)(w:World):
  n9 Try.prog 72 #[G1 J0 a b] w λe f=>e= .returned (.bool false)/\f=w:=by
 have:=pJ a b c d w;grind
theorem yj (A m c b:Nat)(v:m<=1000)(q:b<m)(w:World)(h: ∀j,j<b-> ∃u,w.cell? ⟨A,j,none⟩=S u/\cY u)(a: ∃u,w.cell? ⟨A,b,none⟩=S u/\pf u):
  n9 Try.prog 51 #[J3 (S ⟨A,0,none⟩) m c] w λe l=>e= .returned (.bool false)/\l=w:=by
 have H:=au h;have s:=au a;clear h a;go_enter Try.func51,Try.ntmps51
 go_wp2_with fail
 go_loopw [7] (λi wr=> ∃k:Nat,k<=b/\i= J1 J2 k/\wr=w) (λi _=>m - (intOf i).toNat)
 case atStart=>exact ⟨0,Nat.zero_le _,R,R⟩
 case round=>
  obtain ⟨k,x,rfl,rfl⟩:=hrel;have p:(k:Int)<(m:Int):=YP;by_cases n:k<b
  ·obtain ⟨u,t,r,i,rfl,d,f,g⟩:=ae H k n;have o:=au (pK r i d f g);clear d f g;go_wp2_with fail
   refine (ae o _).mono ?_;rintro e l ⟨rfl,rfl⟩;go_wp2
   go_roundw
   case rel=>exact ⟨k + 1,YP,Zl,trivial⟩
   case measure=>simp[intOf];omega
  ·have:k=b:=by omega
   subst this;obtain ⟨u,t,r,i,rfl,d,f,g⟩:=ae s;have o:=au (AZ r i d f g);clear d f g;go_wp2_with fail
   refine (ae o _).mono ?_;rintro e l ⟨rfl,rfl⟩;go_wp2
   go_ret
   simp
theorem sJ (g b:Nat)(w:World)(d:pf (G1 J0 g b)):
  n9 Try.prog 28 #[.agg #[G1 J0 g b,.slice none 0 0]] w λe f=>e= .returned (.bool false)/\Below w.heap.size w f:=by
 have h:=au d;clear d;go_enter Try.func28,Try.ntmps28
 go_wp2_with fail
 obtain ⟨W,c⟩: ∃W,W=w.alloc (o2 #[G1 J0 g b,.slice none 0 0] 29):=⟨_,R⟩;rw[<-c];have a:Below w.heap.size w W:=by rw[c];exact (o3 _ _).alloc (n7 _) _
 have j:W.cell? ⟨w.heap.size,0,none⟩=S (G1 J0 g b):=by rw[c];go_simp
 clear c;go_loopw [8] (λi wr=>i= J1 J2 0/\wr=W) (λi _=>0)
 case atStart=>simp
 case round=>
  obtain ⟨rfl,rfl⟩:=hrel;go_wp2_with fail
  refine (yj wr.heap.size 1 1 0 YP YP _ ?_ ?_).mono ?_
  ·omega
  ·refine ⟨_,?_,ae h⟩;go_simp
  rintro e k ⟨rfl,rfl⟩;go_wp2
  go_ret
  exact ⟨R,a.alloc a.size _⟩
theorem Dj (g d n c:Nat)(f:Option x5)(w:World)(m:n<=16)(i: ∀a,Below w.heap.size w a->n9 Try.prog 28 #[.agg #[G1 J0 g d,.slice f n c]] a λe h=>e= .returned (.bool false)/\Below a.heap.size a h):
  n9 Try.prog 9 #[.agg #[G1 J0 g d,.slice f n c]] w λe a=>e= .returned (.tuple #[.pointer none,J1 J2 5])/\Below w.heap.size w a:=by
 have j: ¬ ((16:Int)<(n:Int)):=YP;have k:=au (i _ ((o3 _ w).alloc (n7 _) (o2 #[G1 J0 g d,.slice f n c] 29)));clear i;go_enter Try.func9,Try.ntmps9
 go_wp2_with fail
 refine (ae k).mono ?_;rintro e o ⟨rfl,b⟩;have l:=au (((o3 _ w).alloc (n7 _) (o2 #[G1 J0 g d,.slice f n c] 29)).trans (b.mono YR));clear b;go_wp2
 go_ret2
 exact ⟨R,ae l⟩
theorem DU (g i n c:Nat)(j:Option x5)(l m o:Bool)(d:Int)(w:World)(q:d=2\/d=5)(p: ∀b,Below w.heap.size w b->n9 Try.prog 9 #[.agg #[G1 J0 g i,.slice j n c]] b λe k=>e= .returned (.tuple #[.pointer none,J1 J2 d])/\Below b.heap.size b k):
  n9 Try.prog 8 #[.agg #[G1 J0 g i,.slice j n c],.agg #[.bool l,.bool m,.bool o]] w λe b=>e= .returned (.tuple #[.pointer none,J1 J2 d])/\Below w.heap.size w b:=by
 have a:Below w.heap.size w ((w.alloc (o2 #[G1 J0 g i,.slice j n c] 29)).alloc (o2 #[.bool l,.bool m,.bool o] 33)):=((o3 _ w).alloc (n7 _) _).alloc YR _;have r:=au (p _ a);have f:=au a;have t:(d !=0)=true:=by rcases q with rfl | rfl<;>rfl
 clear p a;go_enter Try.func8,Try.ntmps8
 go_wp2_with fail
 refine (ae r).mono ?_;rintro e u ⟨rfl,h⟩;have s:=au ((ae f).trans (h.mono (ae f).size));clear h;go_wp2
 go_ret2
 exact ⟨R,ae s⟩
theorem Dr (r q:Nat)(C:l9)(y:C= .slice none 0 0)(g:Gu)(w:World)(D:pf (G1 J0 r q)):
  n9 Try.prog 26 #[.agg #[G1 J0 r q,.slice none 0 0,.bool g.flush,.bool g.clip,.bool g.mute,C]] w λe z=>e= .returned (.agg #[J1 J2 5,.slice none 0 0,.slice none 0 0,.int .u64 0])/\Below w.heap.size w z:=by
 subst y;go_enter Try.func26,Try.ntmps26
 go_wp2_with fail
 obtain ⟨n,h⟩: ∃n,n=(w.alloc (o2 #[G1 J0 r q,.slice none 0 0,.bool g.flush,.bool g.clip,.bool g.mute,.slice none 0 0] 35)).alloc (o2 #[J1 J2 0,.slice none 0 0,.slice none 0 0,.int .u64 0] 46):=⟨_,R⟩;rw[<-h];have o:n.heap.size=w.heap.size + 2:=by rw[h];simp
 have m:Below w.heap.size w n:=by rw[h];exact ((o3 _ _).alloc (n7 _) _).alloc YR _
 have s:n.heap[w.heap.size + 1]? =S (.cells #[J1 J2 0,.slice none 0 0,.slice none 0 0,.int .u64 0] 46):=by rw[h];show ((w.heap.push _).push _)[w.heap.size + 1]? =_;rw[p9,if_pos YR]
 clear h;refine (DU r q 0 0 none g.flush g.clip g.mute 5 n (.inr R) (λz _=>Dj r q 0 0 none z YP λA _=>sJ r q A D)).mono ?_;rintro e f ⟨rfl,c⟩;have p:=c.size;have a:=(c.block _ (by omega:w.heap.size + 1<n.heap.size)).trans s;have c0:f.cell? ⟨w.heap.size + 1,0,none⟩=S (J1 J2 0):=by simp[r6,a]
 have H:f.cell? ⟨w.heap.size + 1,1,none⟩=S (.slice none 0 0):=by simp[r6,a]
 have I:f.cell? ⟨w.heap.size + 1,2,none⟩=S (.slice none 0 0):=by simp[r6,a]
 have J:f.cell? ⟨w.heap.size + 1,3,none⟩=S (.int .u64 0):=by simp[r6,a]
 have z0:f.frozen? ⟨w.heap.size + 1,0,none⟩=false:=by simp[A7,a]
 have z1:f.frozen? ⟨w.heap.size + 1,1,none⟩=false:=by simp[A7,a]
 have K:f.frozen? ⟨w.heap.size + 1,2,none⟩=false:=by simp[A7,a]
 have L:f.frozen? ⟨w.heap.size + 1,3,none⟩=false:=by simp[A7,a]
 have E:=au (And.intro a (And.intro m (And.intro c (And.intro o p))));clear a m c o p s;go_wp2
 obtain ⟨a,m,c,o,p⟩:=ae E;have l:=x6 (x6 (x6 (x6 a (i:=0) (J1 J2 5)) (i:=1) (.slice none 0 0)) (i:=2) (.slice none 0 0)) (i:=3) (.int .u64 0);obtain ⟨t,d⟩: ∃t,t=((((f.setCell ⟨w.heap.size + 1,0,none⟩ (J1 J2 5)).setCell ⟨w.heap.size + 1,1,none⟩ (.slice none 0 0)).setCell ⟨w.heap.size + 1,2,none⟩ (.slice none 0 0)).setCell ⟨w.heap.size + 1,3,none⟩ (.int .u64 0)):=⟨_,R⟩;have u: ∀b,b≠w.heap.size + 1->t.heap[b]? =f.heap[b]? :=λb x=>by rw[d,cJ _ _ _ x,cJ _ _ _ x,cJ _ _ _ x,cJ _ _ _ x]
 rw[<-d]at l ⊢;simp only[w8,A3,A4]at l;have F:t.heap.size=f.heap.size:=by rw[d];simp
 have B:Below (w.heap.size + 1) f t:=⟨by rw[d];rfl,by simp_all,by rw[d];rfl,YP,λk M=>u k YP⟩;clear d;refine bodyPost_ret (gv R (b:=w.heap.size + 1) R (B5 _ (w.heap.size + 1) 0 46 [J1 J2 5,.slice none 0 0,.slice none 0 0,.int .u64 0] _ ?_ Try.underlying46 R vk)) R ?_
 ·intro j v G;rw[Joins.cell_of_block l,z8,B6];exact G
 ·exact ⟨R,(m.trans (c.mono YP)).trans (B.mono YP)⟩
theorem jQ (a:Nat): ∀ (b:List Value)(o:Nat)(w:World)(c:Array Value)(e:TypeId)(f:Nat×Nat),w.heap[a]? =S (.cells c e f)->o + b.length<=c.size->
  ∃d,(w.setCells a o b).heap[a]? =S (.cells d e f)/\d.size=c.size/\(∀i,i<o\/o + b.length<=i->d[i]? =c[i]?)/\ ∀ (j:Nat) u,b[j]? =S u->d[o + j]? =S u
 | [],o,w,c,e,f,h,g=>⟨c,h,R,λ_ _=>rfl,λj u h=>by simp at h⟩
 | v::b,o,w,c,e,f,h,g=>by
  simp only[List.length_cons]at g;have k:(w.setCell ⟨a,o,none⟩ v).heap[a]? =S (.cells (c.setIfInBounds o v) e f):=by rw[heap_set];simp[h]
  obtain ⟨d,l,p,m,q⟩:=jQ a b (o + 1) _ _ e f k YT;refine ⟨d,l,YS,λi n=> ?_,λj u r=> ?_⟩
  ·simp only[List.length_cons]at n;rw[m i YP,Array.getElem?_setIfInBounds,if_neg YP]
  ·cases j with
   | zero=>grind
   | succ j=>grind
theorem jk (a:Nat): ∀ (c:List Value)(o:Nat)(w:World),(w.setCells a o c).tape=w.tape/\(w.setCells a o c).os=w.os/\(w.setCells a o c).output=w.output/\(w.setCells a o c).heap.size=w.heap.size/\ ∀b,b≠a->(w.setCells a o c).heap[b]? =w.heap[b]?
 | [],_,_=>⟨R,R,R,R,λ_ _=>rfl⟩
 | v::c,o,w=>by obtain ⟨e,f,g,i,j⟩:=jk a c (o + 1) (w.setCell ⟨a,o,none⟩ v);refine ⟨e,f,g,i.trans YR,λb d=>(j b d).trans ?_⟩;rw[heap_set,if_neg (λh=>d h.symm)]
theorem ly {P:D6}(a o:Nat): ∀ (e:List Value)(i:Nat)(w:World)(f:Array Event),(∀v∈e,v.oneCell'=true)->w.there a (o + i) e.length->
  ∀g∈(storeCells ⟨a,o,none⟩ e i).events P w f,g∈f\/ ∃j,j<e.length/\g=⟨.cell ⟨a,o + i + j,none⟩,true,false⟩
 | [],_,_,_,_,_=>λg h=> .inl (by assumption)
 | v::e,i,w,f,l,q=>λg h=>by
  have d:(⟨a,o,none⟩:x5).add i=⟨a,o + i,none⟩:=by unfold Addr.add;split<;>simp_all
  obtain ⟨k,b⟩:=q 0 YR;rw[Nat.add_zero]at k b;obtain ⟨u,c⟩:=o6.1 k;have m:(store ((⟨a,o,none⟩:x5).add i) v).run P w= .ok () (w.setCell ⟨a,o + i,none⟩ v):=by rw[d,run_store P w _ v _ (l v YR),c];simp[b]
  have n:(store ((⟨a,o,none⟩:x5).add i) v).events P w f=f.push ⟨.cell ⟨a,o + i,none⟩,true,false⟩:=by rw[d,events_store P w f _ v _ (l v YR),c];simp only[b,p6,if_false];rfl
  simp only[storeCells,Sem.events_bind,m,Result.evThen_ok,n]at h;have p:(w.setCell ⟨a,o + i,none⟩ v).there a (o + (i + 1)) e.length:=λj s=>by have:=World.there_setCells q a (o + i) [v] (j + 1) YS;rw[show o + (i + 1) + j=o + i + (j + 1) by omega];exact this
  rcases ly a o e (i + 1) _ _ (λx r=>l x (by simp[r])) p g h with h | ⟨j,t,y⟩
  ·rcases Array.mem_push.1 h with h | rfl
   ·exact .inl h
   simp
  ·exact .inr ⟨j + 1,YS,YS⟩
section
variable {m:Bool}{Sp:ca->Tr->bC->List Ak->aq->Goroutine->World->Prop}{Lg:bC}{End:aq->Goroutine->World->Nat->Prop}{d:Nat}{r:ca}{lg:List bC}{ph:Ph}{ρ:aU}{v:World}{val:cH}{R o:Nat}{vs:List Value}
theorem zu{f:Nat×Nat}{es:Array Event}(o:h≠ [])(a: ∀j,j<h.length->F.cl n (B + j))(l:w.heap[n]? =S (.cells y t f))(p:B + h.length<=y.size)
  (q: ∀d∈es,∃j,j<h.length/\d=⟨.cell ⟨n,B + j,none⟩,true,false⟩):oH F w (w.setCells n B h) es:=by
 obtain ⟨r,s,u,J,v⟩:=jk n h B w;obtain ⟨x,z,A,C,K⟩:=jQ n h B w y t f l p;have m:0<h.length:=YS;refine ⟨λb c D L=>v b ?_,λb E G H D c=> ?_,YP,λb E G H c=> ?_,r,s,u,λd e=> ?_⟩
 ·grind
 ·by_cases g:b=n
  ·subst g;rw[l]at c;cases c;refine ⟨x,z,A,λi I=>C i ?_⟩;by_cases k:i<B\/B + h.length<=i
   ·exact k
   ·refine absurd (a (i - B) YP) ?_;rw[show B + (i - B)=i by omega];exact I
  grind
 ·grind
 ·obtain ⟨j,k,rfl⟩:=q d e;exact .put (a j k)
def cH.put (a:cH)(R o:Nat)(vs:List l9):cH:=⟨λb j=>if b=R/\o<=j/\j<o + vs.length then vs[j - o]? else a.cl b j,a.bk,a.sz⟩
theorem At.put (d:At E ρ v F N w)(K:vs≠ [])(g: ∀j,j<vs.length->F.cl R (o + j)):At E ρ v F (N.put R o vs) (w.setCells R o vs)/\ ∃c e f,w.heap[R]? =S (.cells c e f)/\o + vs.length<=c.size/\ ∀j,j<vs.length-> ¬ (f.1<=o + j/\o + j<f.2):=by
 have r:0<vs.length:=YS;obtain ⟨c,e,f,u,s,L,_,_,t⟩:=d.cells R _ (g (vs.length - 1) YP);have y:o + vs.length<=c.size:=by have:=aG L;omega
 have M: ∀j,j<vs.length-> ¬ (f.1<=o + j/\o + j<f.2):=λj G=>by obtain ⟨z,H,A,O,P,_,V,_⟩:=d.cells R _ (g j G);grind
 obtain ⟨h1,h2,h3,Y,h5⟩:=jk R vs o w;obtain ⟨W,P,X,V,Z⟩:=jQ R vs o w c e f s y;have Q:=d.fg.ok.cl R _ (g 0 r);refine ⟨⟨⟨d.bQ.size,d.bQ.inj,λi x l hi y=> ?_,d.bQ.et,⟨d.bQ.pos.1,YS⟩,λb x k=> ?_,λb x k=> ?_⟩,d.fp,?_,λb j k=> ?_,λb ob k=> ?_⟩,c,e,f,s,y,M⟩
 ·rw[Y];exact d.bQ.low i x l hi y
 ·obtain ⟨z,H,A,c2,f2,m,p,q,I⟩:=d.bQ.cells b x k;by_cases T:x=R
  ·subst T;rw[s]at p;cases p;have a0:=A5 λB=>Q (d.fp.dc b x k ⟨z,_,A,m,D1 λh0=>B (Array.eq_empty_of_size_eq_zero h0)⟩);grind
  ·exact ⟨z,H,A,c2,f2,m,YS,q,I⟩
 ·obtain ⟨a,a',l,m,p,q⟩:=d.bQ.num b x k;grind
 ·have:=d.fg.did (zu (es:= #[]) K g s y λev h=>by simp at h);exact this.ym ⟨λ_ h=> .inl h,λ_ h=> .inl h,λ_ _ h=> .inl h⟩ d.fg.ok λ_ _ h=>h
 ·obtain ⟨z,H,A,O,m,p,q,I,g5⟩:=d.cells b j k;by_cases C:b=R
  ·subst C;rw[s]at m;cases m;by_cases G:o<=j/\j<o + vs.length
   ·obtain ⟨x,T⟩: ∃x,vs[j - o]? =S x:=⟨_,List.getElem?_eq_getElem YP⟩;have:=Z (j - o) x T;rw[show o + (j - o)=j by omega]at this;refine ⟨W,_,_,x,P,this,q,λJ D=> ?_,λn B=>X.trans (t n B)⟩;simp only[cH.put,true_and,if_pos G]at D;grind
   ·refine ⟨W,_,_,O,P,(V j YP).trans p,q,λJ D=>I J ?_,λn B=>X.trans (t n B)⟩;simpa only[cH.put,true_and,if_neg G]using D
  ·refine ⟨z,H,A,O,YS,p,q,λJ D=>I J ?_,g5⟩;simpa only[cH.put,C,false_and,if_false]using D
 ·obtain ⟨m,p,q⟩:=d.held b ob k;grind
theorem aa.put {fn:FuncId}{y:Array l9}{k:List Item}{l:List Frame}{n:Array D4}{i:Nat}{rest:List Nat}{s:D4}{t:H7}{x z:y8}(C:At E ρ v F N w)(X: ¬ph.late)(ho:n[i]? =some s)(hg:s.guard=none)(hd:s.dst=none)(D:s.op= .store t x z)
  (hx:Act.eval ⟨y,[]⟩ x= J4 (some ⟨R,o,none⟩))(hz:(Act.eval ⟨y,[]⟩ z).cells=vs.toArray)(h1: ∀u∈vs,u.oneCell'=true)(T:(P.info? t).map (·.size)=some vs.length)(H:vs≠ [])(I: ∀j,j<vs.length->F.cl R (o + j))
  (K: ∀g,At E ρ v F (N.put R o vs) g->aa P E m Sp Lg End d r lg ph F (G (ak fn y (.inRegion n rest::k)) l) g):aa P E m Sp Lg End d r lg ph F (G (ak fn y (.inRegion n (i::rest)::k)) l) w:=by
 have hw:z6 s (yielded n (Act.mk y []).tmps)=true:=by unfold z6;rw[hg]
 obtain ⟨p,A,J⟩: ∃p,P.info? t=some p/\p.size=vs.length:=by
  cases h:P.info? t with
  | none=>rw[h]at T;cases T
  | some p=>rw[h]at T;exact ⟨p,rfl,by simpa using T⟩
 have key: ∀g,RK E F w g->At E ρ v F (N.put R o vs) (g.setCells R o vs)/\ ∃es,stepG P m (G (ak fn y (.inRegion n (i::rest)::k)) l) g= .go (G (ak fn y (.inRegion n rest::k)) l) (g.setCells R o vs) es/\oH F g (g.setCells R o vs) es:=λg V=>by
  obtain ⟨Y,c,e,f,Z,hl,a0⟩:=(C.rely V).put H I;have B:g.there R o vs.length:=λj L=>by
   refine ⟨?_,?_⟩
   ·unfold r6;simp[Z,show o + j<c.size by omega]
   ·exact Bool.eq_false_iff.2 λhf=>a0 j L ((lS (a:=⟨R,o + j,none⟩) Z).1 hf)
  have M:(execOp (Act.eval ⟨y,[]⟩) s).run P g= .ok .skip (g.setCells R o vs):=by have W:=run_storeCells_cells (P:=P) R o vs 0 g (λj L=>(B j L).1) (λj L=>(B j L).2) h1;rw[Nat.add_zero]at W;unfold execOp;simp[D,hx,C9,F8,storeVar,hz,sizeOf,typeInfo,A,J,W]
  have O: ∀ev∈(execOp (Act.eval ⟨y,[]⟩) s).events P g #[],∃j,j<vs.length/\ev=⟨.cell ⟨R,o + j,none⟩,true,false⟩:=λev q=>by
   have h4:(execOp (Act.eval ⟨y,[]⟩) s).events P g #[]=(storeCells ⟨R,o,none⟩ vs 0).events P g #[]:=by unfold execOp;simp[D,hx,C9,F8,storeVar,hz,sizeOf,typeInfo,A,J]
   rw[h4]at q;rcases ly R o vs 0 g #[] h1 (by simpa using B) ev q with h5 | h5
   ·simp at h5
   ·simpa using h5
  have Q:=stepG_none (P:=P) (main:=m) (b:=ak fn y []) (a:=⟨y,[]⟩) (k:=k) (cs:=l) (w:=g) (rest:=rest) ho hw (by simp[ak]) M;rw[hd]at Q;exact ⟨Y,_,Q,zu H I Z hl λev q=>O ev (eP _ _ ev q)⟩
 refine aa.step (λ_=>F) rfl X (λg V=> ?_) (λg g' w' es V e=> ?_)
 ·obtain ⟨_,es,Y,W⟩:=key g V;exact ⟨_,_,es,Y,W,⟨rfl,rfl⟩,⟨λ_ h=> .inl h,λ_ h=> .inl h,λ_ _ h=> .inl h⟩,C.fg.ok⟩
 grind
end
section
variable {R:Value->World->Prop}
theorem aJ(a:o.op= .move x)(b:e.eval x=v)(h:R v w):bD Try.prog o e w R:= .inl ⟨v,w,by simp[o9,a,b],h⟩
theorem bZ(a:o.op= .load t x)(b:e.eval x=v)(c:(x0 t v).run Try.prog w= .ok r w)(h:D r w):bD Try.prog o e w D:= .inl ⟨r,w,by simp[o9,a,b,c],h⟩
theorem cN {y:y8}{u:l9}(a:o.op= .indexAddr t x y)(b:e.eval x=u)(c:e.eval y=v)(d:(s7 t u v).run Try.prog w= .ok r w)(h:D r w):bD Try.prog o e w D:= .inl ⟨r,w,by simp[o9,a,b,c,d],h⟩
theorem IT(a:o.op= .call {callee:= .value (.func 26),args:= #[x],argTypes:=p})(g:e.eval x=v)(c:n9 Try.prog 26 #[v] w λd f=> ∃b,d= .returned b/\D b f):bD Try.prog o e w D:=by
 refine .inr (.inr ⟨26,#[e.eval x],?_,?_⟩)
 ·clear c;simp[o9,a];go_simp
 grind
end
noncomputable def GH:Array D4:=match Try.f25.body with | some (.region _ o _)=>o | _=> #[]
def idle (o:D4):D4:={o with op:= .move (.const (.bool true))}
noncomputable def MK:Array D4:=match GH[8]? with | some o=>GH.setIfInBounds 8 (idle o) | none=> #[]
def ar (v v':World):Prop:=v.heap.size<=v'.heap.size/\ ∀b,b<v.heap.size->v'.heap[b]? =v.heap[b]?
theorem ar.cell {v:World}{a:x5}{u:l9}(h:ar v W)(b:v.cell? a=some u):W.cell? a=some u:=by
 have c:a.block<v.heap.size:=by
  unfold r6 at b;cases d:v.heap[a.block]? with
  | none=>grind
  | some o=>grind
 rw[o4 (w:=v) (h.2 _ c)];exact b
theorem ar.trans {a b c:World}(h:ar a b)(k:ar b c):ar a c:=⟨y3 h.1 k.1,λx d=>(k.2 x (n8 d h.1)).trans (h.2 x d)⟩
theorem ar.ba {v:World}(h:Below n v w)(a:v.heap.size<=n):ar v w:=⟨h.size,λb c=>h.block b YP⟩
def So (b J n c d i:Nat)(a:Array l9):Nat->l9->Prop
 | 4,v=>v= J3 (S ⟨b,0,none⟩) n d
 | 5,v=>v= J1 J2 i
 | 6,v=>v= J3 (S ⟨J,0,none⟩) n c
 | 7,v=>v= J1 J2 i
 | 8,v=>v= J4 (S ⟨J,i * 6,none⟩)
 | 9,v=>v= .agg a
 | 11,v=>v= J4 (S ⟨b,i * 4,none⟩)
 | _,_=>True
def Jw (c:l9->World->Prop)(v:World)(b:Array Bool)(a:I2)(w:World):Prop:=ar v w/\(b.getD 6 false=true->c (a.eval (.tmp 10)) w)
theorem Jw.same{a:I2}(h:Jw D W f a w)(i d:Nat)(u:l9)(c:i≠6)(e:d≠10):Jw D W (f.setIfInBounds i true) (a.put (S d) u) w:=
 ⟨h.1,λb=>by rw[m7 false c]at b;rw[G6 YS];exact h.2 b⟩
theorem vu{p:x5}{a:Option x5}(b:t=38\/t=39)(h:w.cell? p=S (.slice a n B)):(x0 t (.pointer (S p))).run Try.prog w= .ok (.slice a n B) w:=by rcases b with rfl | rfl<;>go_simp
theorem xT (b n c k:Nat)(w:World)(h:k<n)(a:n<=100):(s7 38 (J3 (S ⟨b,0,none⟩) n c) (J1 J2 k)).run Try.prog w= .ok (J4 (S ⟨b,k * 6,none⟩)) w:=by have d:(k:Int)<(n:Int):=YP;go_simp
theorem iI (b n c k:Nat)(w:World)(h:k<n)(a:n<=100):(s7 39 (J3 (S ⟨b,0,none⟩) n c) (J1 J2 k)).run Try.prog w= .ok (J4 (S ⟨b,k * 4,none⟩)) w:=by have d:(k:Int)<(n:Int):=YP;go_simp
theorem OC:(Try.prog.info? 35).map (·.size)=S 6:=Zh
theorem OY {R C i:Nat}{v:World}(I:v.cell? ⟨s,0,none⟩=S (J3 (S ⟨R,0,none⟩) n C))(J:v.cell? ⟨L,0,none⟩=S (J3 (S ⟨B,0,none⟩) n Y))(K:v.rangeAt B (i * 6) h)(M:h.length=6)(F:i<n)(G:n<=100)
  (l: ∀w,ar v w->n9 Try.prog 26 #[.agg h.toArray] w λe r=> ∃u,e= .returned u/\D u r/\ar w r):
  (C0 0 MK true).wp Try.prog (λe a r=>e= .normal/\a.defers= []/\ ∃N O P Q T V t,a.tmps= #[J1 J2 i,J4 (S ⟨L,0,none⟩),J4 (S ⟨s,0,none⟩),U,N,O,P,Q,T,V,t,J4 (S ⟨R,i * 4,none⟩)]/\D t r/\ar v r)
   ⟨#[J1 J2 i,J4 (S ⟨L,0,none⟩),J4 (S ⟨s,0,none⟩),U,U,U,U,U,U,U,U,U],[]⟩ v:=by
 have m:MK=MK:=rfl;conv at m=>rhs;unfold MK GH;simp only[Try.f25]
 simp only[B6,List.getElem?_cons_succ,List.getElem?_cons_zero,w8,A3,A4,idle]at m;rw[m];refine cv (So R B n Y C i h.toArray) (Jw D v) Zh Zh Zh 12 Zh rfl ?_ ?_ ?_
 ·exact ⟨⟨n7 _,λ_ _=>rfl⟩,λp=>by simp at p⟩
 ·intro listed b z k o c H W X q;have Z:k<9:=by simpa using (m6.1 H).1
  have f:=c.world;rcases (by omega:k=0\/k=1\/k=2\/k=3\/k=4\/k=5\/k=6\/k=7\/k=8)with rfl | rfl | rfl | rfl | rfl | rfl | rfl | rfl | rfl
  all_goals obtain rfl:=m5 H
  ·exact bZ rfl (c.base 2 Zh) (vu (.inr rfl) (f.1.cell I)) ⟨aj rfl rfl,f.same 0 4 _ YP YP⟩
  ·exact aJ rfl (c.base 0 Zh) ⟨aj rfl rfl,f.same 1 5 _ YP YP⟩
  ·exact bZ rfl (c.base 1 Zh) (vu (.inl rfl) (f.1.cell J)) ⟨aj rfl rfl,f.same 2 6 _ YP YP⟩
  ·exact aJ rfl (c.base 0 Zh) ⟨aj rfl rfl,f.same 3 7 _ YP YP⟩
  ·exact cN rfl (c.slot 2 _ 6 rfl rfl (q ⟨2,.data⟩ YR rfl)) (c.slot 3 _ 7 rfl rfl (q ⟨3,.data⟩ YR rfl)) (xT _ _ _ _ _ F G) ⟨aj rfl rfl,f.same 4 8 _ YP YP⟩
  ·exact bZ rfl (c.slot 4 _ 8 rfl rfl (q ⟨4,.data⟩ YR rfl)) (r8 z B (i * 6) 35 h _ (λj u y=>f.1.cell (K j u y)) Try.underlying35 rfl (by rw[M];rfl)) ⟨aj rfl rfl,f.same 5 9 _ YP YP⟩
  ·refine IT rfl (c.slot 5 _ 9 rfl rfl (q ⟨5,.data⟩ YR rfl)) ((l z f.1).mono ?_);rintro e w3 ⟨u,rfl,y,x⟩;refine ⟨u,rfl,aj rfl trivial,f.1.trans x,λ_=> ?_⟩;have:(b.put (S 10) u).eval (.tmp 10)=u:=by simp[F3,v9,c.size]
   simp_all
  ·exact cN rfl (c.slot 0 _ 4 rfl rfl (q ⟨0,.data⟩ YR rfl)) (c.slot 1 _ 5 rfl rfl (q ⟨1,.data⟩ YR rfl)) (iI _ _ _ _ _ F G) ⟨aj rfl rfl,f.same 7 11 _ YP YP⟩
  ·refine aJ rfl rfl ⟨(λd p=>nomatch p),f.1,λp=> ?_⟩;rw[m7 false YP]at p;exact f.2 p
 ·intro listed b z c g;have f:=c.world;have A:=c.slot 7 _ 11 rfl rfl (g 7 YQ);have y:=f.2 (g 6 YQ);have E:=gZ b 12 c.size;rw[c.defers]at E;replace E:b=⟨#[b.eval (.tmp 0),b.eval (.tmp 1),b.eval (.tmp 2),b.eval (.tmp 3),b.eval (.tmp 4),b.eval (.tmp 5),b.eval (.tmp 6),b.eval (.tmp 7),b.eval (.tmp 8),b.eval (.tmp 9),b.eval (.tmp 10),b.eval (.tmp 11)],_⟩:=E;rw[c.base 0 Zh,c.base 1 Zh,c.base 2 Zh,c.base 3 Zh,show b.eval (.tmp 11)= J4 (S ⟨R,i * 4,none⟩)from A]at E;exact ⟨rfl,c.defers,b.eval (.tmp 4),b.eval (.tmp 5),b.eval (.tmp 6),b.eval (.tmp 7),b.eval (.tmp 8),b.eval (.tmp 9),b.eval (.tmp 10),congrArg Act.tmps E,y,f.1⟩
theorem Ks:Try.f25.body=S (.region 0 GH true):=Zh
structure AD (v:World)(bJ bB J Rl n:Nat)(zg:Nat->l9->World->Prop):Prop where
 bx: ∃c,v.cell? ⟨bJ,0,none⟩=S (J3 (S ⟨J,0,none⟩) n c)
 rx: ∃c,v.cell? ⟨bB,0,none⟩=S (J3 (S ⟨Rl,0,none⟩) n c)
 row: ∀i,i<n-> ∃QH:List l9,v.rangeAt J (i * 6) QH/\QH.length=6/\ ∀w,ar v w->n9 Try.prog 26 #[.agg QH.toArray] w λe w'=> ∃u,e= .returned u/\zg i u w'/\ar w w'
theorem AD.low {v v':World}(h:AD v B L s Y n J)(k:ar v v'):AD v' B L s Y n J where
 bx:=h.bx.imp λ_ e=>k.cell e
 rx:=h.rx.imp λ_ e=>k.cell e
 row i hi:=by obtain ⟨a,b,c,d⟩:=h.row i hi;exact ⟨a,λj u f=>k.cell (b j u f),c,λw g=>d w (k.trans g)⟩
structure CN (zg:Nat->l9->World->Prop):Prop where
 low: ∀i u v v',zg i u v->ar v v'->zg i u v'
 agg: ∀i u v,zg i u v-> ∃us:List l9,u= .agg us.toArray/\us.length=4/\ ∀x∈us,x.oneCell'=true
structure NG (bJ bB J Rl R n W f:Nat)(zg:Nat->l9->World->Prop)(D:Nat->Prop)(ρ:aU)(v:World)(F:aq)(val:cH):Prop where
 BD:AD v bJ bB J Rl n zg
 at':ρ[Rl]? =S (R,.cells)
 cl:F.cl=Qy R 4 n W f
 sz:val.sz R=S (4 * n)
 did: ∀i,i<n->D i-> ∃us sw:List l9,zg i (.agg us.toArray) v/\aB ρ us.toArray sw.toArray/\ ∀k,k<4->val.cl R (4 * i + k)=sw[k]?
theorem NG.stay {c d f:Nat}(l:CN J){D:Nat->Prop}{a:aU}{e:aq}(g:Ext k a)(j:ar w W)(m:F.le e)(h:NG B L s Y c n d f J D k w F N):NG B L s Y c n d f J D a W e N where
 BD:=h.BD.low j
 at':=g _ _ h.at'
 cl:=m.uK.trans h.cl
 sz:=h.sz
 did i hi hD:=by obtain ⟨o,b,p,q,r⟩:=h.did i hi hD;exact ⟨o,b,l.low _ _ _ _ p j,aB.mono g q,r⟩
theorem qJ.low {v v':World}{bF W:Nat}(h:qJ v bF B L s Y n W r)(k:ar v v'):qJ v' bF B L s Y n W r:=⟨k.cell h.f,k.cell h.n,k.cell h.w,k.cell h.k⟩
theorem AH (a:Array D4)(s:Nat)(o:D4)(h:a[s]? =S o)(i:Nat):((a.setIfInBounds s (idle o))[i]?).map (·.after)=(a[i]?).map (·.after):=by
 rw[p7];split
 ·rename_i e;subst e;have:=aG h;simp[this,idle,m6.1 h |>.2]
 ·rfl
def Ju (a:Array D4):Bool:=(p8 a.size).all (λi=>((a[i]?).map λo=>o.guard.isNone && o.after.all λe=> !o7 .any e || decide (e.on<i)).getD true)
def Kj (a:Array D4)(s:Nat):Bool:=((a[s]?).map λos=>(p8 a.size).all (λj=>decide (j=s) || os.after.any λe=>decide (e.on=j) && o7 .any e)).getD false
def Fi (P:D6)(b:Nat->Bool)(a:Array D4)(s:Nat):Bool:=(p8 a.size).all (λi=>decide (i=s) || ((a[i]?).map λo=>jM P b o.op && o.guard.isNone).getD false)
theorem GV(h:Ju g=true): ∀i o,g[i]? =S o-> ∀e∈o.after,o7 .any e=true->e.on<i:=by intro i o b;have c:i<g.size:=YS;have a:=q9.1 h i (by simpa using c);rw[b]at a;simp only[x9,z5,E4,Array.all_eq_true_iff_forall_mem]at a;grind
theorem Kk(a:g[s]? =S o)(h:Kj g s=true): ∀j,j<g.size->j≠s-> ∃e∈o.after,e.on=j/\o7 .any e=true:=by intro j b c;unfold Kj at h;rw[a]at h;have d:=q9.1 h j (by simpa using b);grind
theorem Ad(h:Fi P M g s=true): ∀i:Nat,i<g.size->i≠s-> ∃a,(g.setIfInBounds s o)[i]? =S a/\g[i]? =S a/\jM P M a.op=true/\a.guard=none:=by intro i d b;have c:=q9.1 h i YS;rw[p5 d]at c;simp only[b,decide_false,Bool.false_or,x9,z5,E4]at c;exact ⟨g[i],YS,p5 d,c.1,by simp_all⟩
theorem LJ{b:D4}{d:Bool}(e:g[s]? =S b)(h:Fi P M g s=true):ct P M (.region n (g.setIfInBounds s (idle b)) d)=true:=by
 have f:=aG e;unfold ct;rw[Array.all_eq_true];intro i c;rw[Array.size_setIfInBounds]at c;by_cases a:i=s
 ·subst a;simp[idle,jM,cX,qg]
 ·obtain ⟨j,k,_,l,_⟩:=Ad (o:=idle b) h i c a;grind
section
variable {m:Bool}{Lg:bC}{r:ca}{ph:Ph}{Q:Array Value->World->Prop}{fn:FuncId}{ρ:aU}{v:World}{x:Array Value}
theorem aa.Ds(p:sG P M)(q: ∃f,P.funcs[fn]? =S f)(i: ¬ph.late)(t:P.follows .mixedOrders=true)(h:g[s]? =S o)(u:o.dst=none)(z:o.guard=none)(C:Ju g=true)(D:Kj g s=true)(c:Fi P M g s=true)
  (I: ∀x v d n,Q x v->Q x (aK v d n))(j: ∀x v d n,Q x (aK v d n)->Q x v)(k:At E ρ v F N w)(J:aB ρ x y)
  (L: ∀d,(C0 B (g.setIfInBounds s (idle o)) true).wp P (λe l O=>e= .normal/\l.defers= []/\Q l.tmps O) ⟨x,[]⟩ (Go.Proofs.Ytheopdnafbkhpaa.aK v d 0))(K:GN P E m b Lg a n r Z ph Q fn ρ F N (.inRegion g [s]::H) A):aa P E m b Lg a n r Z ph F (G (ak fn y (.code (.region B g true)::H)) A) w:=
 aa.drawn (o1:=idle o) p q i t YR (AH g s o h) h (GV C) (Kk h D) (Ad c) YS u z R (LJ h c) I j k J L K
end
theorem VR.Qv(b:VR k (.agg h.toArray) v): ∃a:List Value,v= .agg a.toArray/\aB k h.toArray a.toArray:=by
 cases b with
 | @agg _ c d e=>exact ⟨c.toList,YR,YP,YP⟩
theorem VR.one{x:l9}(h:VR k x v)(b:x.oneCell'=true):v.oneCell'=true:=by cases h<;>first | rfl | (rename_i a;cases v<;>first | rfl | exact False.elim a) | assumption
theorem aB.QM{a:List l9}(b:aB k h.toArray a.toArray)(c: ∀x∈h,x.oneCell'=true): ∀x∈a,x.oneCell'=true:=by
 intro z d;obtain ⟨j,e,rfl⟩:=List.getElem_of_mem d;have f:h.length=a.length:=by simpa using b.1
 exact (b.2 j h[j] a[j] YR (by simp[e])).one (c _ (List.getElem_mem _))
theorem QN: ∃a,GH[8]? =S a/\a.dst=none/\a.guard=none/\a.op= .store 46 (.tmp 11) (.tmp 10):=by have h:(GH[8]?).map (λo=>(o.dst,o.guard,o.op))=S (none,none,.store 46 (.tmp 11) (.tmp 10)):=Zh;grind
theorem Mt{Lg:bC}{r:ca}{bW bK bJ bB b3 Rl R:Nat}(hr:CN J)(hn:n<=100):
  kn E b Lg a r Z n B L s Y bW bK 25 #[J4 (S ⟨bJ,0,none⟩),J4 (S ⟨bB,0,none⟩)] Try.f25 (.region 0 GH true) (NG bJ bB b3 Rl R n B L J):=by
 intro D i ρ v F val w c l z hi b4 hD q f T hg K;have b5:z.size=2:=by have:=T.1;simpa using this.symm
 have hv:aB ρ #[J1 J2 i,J4 (S ⟨bJ,0,none⟩),J4 (S ⟨bB,0,none⟩),U,U,U,U,U,U,U,U,U] (#[J1 J2 i] ++ z ++ s6 9 U):=by
  have V:aB ρ #[J1 J2 i] #[J1 J2 i]:=⟨rfl,λj x y hx hy=>by
   cases j with
   | zero=>simp at hx hy;subst hx;subst hy;exact .int _ _
   | succ j=>simp at hx⟩
  exact (aB.append V T).ei 9
 rw[show Try.f25.ntmps - (1 + z.size)=9 by simp_all];obtain ⟨cj,a7⟩:=q.BD.bx;obtain ⟨cr,a8⟩:=q.BD.rx;obtain ⟨b6,hj,hl,A⟩:=q.BD.row i hi;obtain ⟨os,h8,W,X,a0⟩:=QN;refine aa.Ds (Q:=λx' v'=> ∃H I M N O P g,x'= #[J1 J2 i,J4 (S ⟨bJ,0,none⟩),J4 (S ⟨bB,0,none⟩),U,H,I,M,N,O,P,g,J4 (S ⟨Rl,i * 4,none⟩)]/\J i g v'/\ar v v') bh ⟨_,Try.func25⟩ Zi Zh h8 W X Zh Zh Zh (λx v1 tp d h=> ?_) (λx v1 tp d h=> ?_) f hv (λtp=> ?_) ?_
 ·obtain ⟨H,I,M,N,O,P,g,V,h2,h3⟩:=h;exact ⟨H,I,M,N,O,P,g,V,hr.low _ _ _ _ h2 ⟨n7 _,λ_ _=>rfl⟩,h3⟩
 ·obtain ⟨H,I,M,N,O,P,g,V,h2,h3⟩:=h;exact ⟨H,I,M,N,O,P,g,V,hr.low _ _ _ _ h2 ⟨n7 _,λ_ _=>rfl⟩,h3⟩
 ·have e:MK=GH.setIfInBounds 8 (idle os):=by unfold MK;rw[h8]
  rw[<-e];exact OY (v:=aK v tp 0) a8 a7 hj hl hi hn A
 ·rintro a9 x' y' v' w' F' hE hF ⟨H,I,M,N,O,P,g,rfl,u,p⟩ a1 a2;obtain ⟨us,rfl,b2,a3⟩:=hr.agg _ _ _ u;obtain ⟨m,hz,C⟩:=(a2.ev (t:=10) rfl).Qv;have G:m.length=4:=by have:=C.1;simp at this;omega
  have a4:=hF.uK.trans q.cl;refine aa.put (R:=R) (o:=i * 4) (vs:=m) a1 Zi h8 X W a0 ((a2.ev (t:=11) rfl).at (hE _ _ q.at')) (by rw[hz];rfl) (C.QM a3) (by rw[G];rfl) (λe=>YS) (λj hj=> ?_) (λw1 a5=> ?_)
  ·rw[a4];exact ⟨rfl,YP,YS⟩
  ·refine aa.aH a5 λw f=> ?_;refine aa.gQ f λw f=> ?_;refine aa.go f YR (λ_=>dT Try.func25 rfl) λw f=> ?_;refine K a9 v' F' (val.put R (i * 4) m) w hE hF rfl f ⟨q.BD.low p,hE _ _ q.at',a4,q.sz,λj hj b0=> ?_⟩ (hg.low p);by_cases a6:j=i
   ·subst a6;refine ⟨us,m,u,C,λk hk=> ?_⟩;show (if R=R/\j * 4<=4 * j + k/\4 * j + k<j * 4 + m.length then m[4 * j + k - j * 4]? else val.cl R (4 * j + k))=_;grind
   ·obtain ⟨ut,b1,k1,k2,k3⟩:=q.did j hj (b0.resolve_right a6);refine ⟨ut,b1,hr.low _ _ _ _ k1 p,aB.mono hE k2,λk hk=> ?_⟩;simp only[cH.put];grind
section
open Go.Conc.Lib Go.ConcR.Gen
theorem Kt:Try.f39.body=S (body_wait me):=Zh
theorem Mo:Try.f39.ntmps=84:=Zh
theorem Pq (p:l9):(#[p] ++ s6 83 U:Array l9)= #[p,U,U,U,U,U,U,U,U,U,U,U,U,U,U,U,U,U,U,U,U,U,U,U,U,U,U,U,U,U,U,U,U,U,U,U,U,U,U,U,U,U,U,U,U,U,U,U,U,U,U,U,U,U,U,U,U,U,U,U,U,U,U,U,U,U,U,U,U,U,U,U,U,U,U,U,U,U,U,U,U,U,U,U]:=by simp
theorem uB (a:FuncId)(y:Array l9)(d:Option Nat)(u:l9)(t:List Item):(base a).at (F3 ⟨y,[]⟩ d u) t=ak a (F3 ⟨y,[]⟩ d u).tmps t:=by cases d<;>rfl
theorem NW (a:FuncId)(y:Array l9)(t:List Item):(base a).at ⟨y,[]⟩ t=ak a y t:=rfl
section
variable {Sp:ca->Tr->bC->List Ak->aq->Goroutine->World->Prop}{Lg:bC}{End:aq->Goroutine->World->Nat->Prop}{r:ca}{lg:List bC}{fn:FuncId}{rest:List Nat}{k:List Item}{cs:List Frame}{args:Array Operand}
theorem jK (s:E.on)(j:g[n]? =S o)(t:o.guard=none)(e:o.op= .call {callee:= .value (.func 39),args:=args,argTypes:=p})(q:args.map (v9 ⟨y,[]⟩)= #[J4 (S ⟨E.Wg,0,none⟩)])
  (b: ∀d a,RK E F w a->(∀ (n:Nat)(L:bC),lg[n]? =S L-> ∃H,L H a)->JY Try.prog d (G (ak fn ((F3 ⟨y,[]⟩ o.dst (.tuple #[])).tmps) (.inRegion g rest::k)) cs)->End (.all a.heap.size E.S) d a a.heap.size):
  aa Try.prog E true Sp Lg End 0 r lg (.work false [] []) F (G (ak fn y (.inRegion g (n::rest)::k)) cs) w:=by
 have u:args.size=1:=by have:=congrArg Array.size q;simpa using this
 have key:=λa (c:E.ok a) v=>DQ (E:=E) (Sp:=Sp) (Lg:=Lg) (End:=End) (r:=r) (lg:=lg) (F:=F) (w:=a) (b₀:=base fn) (a₀:=⟨y,[]⟩) (ops₀:=g) (i₀:=n) (rest₀:=rest) (k₀:=k) (cs:=cs) wK s c v;refine aa.ctl (b':=ak 39 (#[J4 (S ⟨E.Wg,0,none⟩)] ++ s6 83 U) [.code (body_wait me)]) (cs':=ak fn y (.inRegion g (n::rest)::k)::cs) YR (λa f=> ?_) (λa f=> ?_)
 ·have:=fM (P:=Try.prog) (m:=true) (fn:=fn) (y:=y) (k:=k) (l:=cs) (w:=a) (rest:=rest) j t e Try.func39 Zh Kt;rw[q,Mo,u]at this;exact this
 ·rw[Pq];have h:=key a f.ok λd x z A i _=>b d x (f.trans z) A (by rw[j]at i;rw[show ((S o).bind (·.dst))=o.dst from rfl,uB]at i;exact i);assumption
end
end
section
open Go.Conc.Lib
open Go.ConcR (KK WgAt stA smA)
section
variable {Fin:aq->Goroutine->World->Nat->Prop}{v:World}{W R Rl:Nat}{fw:FuncId}{wc:Array Value}{fu:Func}{cw:Code}{Jt:Array Value}{c:Frame}{Wc:Nat->Nat->Prop}{J:Nat->aU->World->Prop}{I:Nat->(Nat->Prop)->aU->World->aq->cH->Prop}{L:Nat->Nat->bC}{V:Nat->Nat->Value->Prop}
theorem EO (h:Array Obj)(a b c:Obj):(((h.push a).push b).push c)[h.size]? =S a/\(((h.push a).push b).push c)[h.size + 1]? =S b/\(((h.push a).push b).push c)[h.size + 2]? =S c:=by grind
theorem aa.KB{m:Bool}{g:bC}{r:ca}{e:Ph}{i:Frame}{c:List Frame}(f:e≠ .gone)(h: ∀d,stepG P m (G q A) d= .go (G i c) d #[])(k:aa P E m b g a n r Z e F (G i c) w):aa P E m b g a n r Z e F (G q A) w:=
 aa.ctl f (λd _=>h d) λ_ j=>k.rely j
noncomputable def JX:Code:=match Try.f24.body with | some c=>c | _=> .skip
theorem pL {bk:Nat->Option Obj}(a1: ∀b M,bk b=some M->b≠R/\ ∀g,¬Wc g b)(c:At (E0 O) k v F ⟨λ_ _=>none,bk,λ_=>none⟩ w)(hv:aB k #[J1 J2 n,J1 J2 W,.func (.func fw) #[] wc] y)
  (a2: ∀Wg,iT (E1 V O Wg) Wc R s n W v.heap.size (v.heap.size + 1) (v.heap.size + 2) fw wc fu cw (λ_=>none) J I (L Wg))
  (hR:k[Rl]? =some (R,.cells))(b7: ∃q e,v.heap[Rl]? =some (.cells q e (0,0))/\q.size=s * n)(a3: ∀g x,Wc g x->F.wr x/\x≠R)(a4: ∀g g' b,Wc g b->Wc g' b->g=g')(a5:min n W<=1000000)
  (b8: ∀p o,Ext k p->(∀ (b b' x:Nat),p[b]? =some (x,.cells)->p[b']? =some (x,.cells)->b=b')->v.heap.size + 3<=p.size->ar v o->J 0 p (dL p (λx=>x=R) (fi Wc W 0) o))
  (hK: ∀Wg p v' w',R<Wg->(∀b,F.rd b->b<Wg)->J (min n W) p v'->At (E0 (O.add Wg)) p v' (.all w'.heap.size (O.add Wg)) bO w'->(∀f,f<min n W-> ∃H,L Wg f H w')->(∀b M,bk b=some M->w'.heap[b]? =some M)->cO Fin (O.add Wg) (.all w'.heap.size (O.add Wg)) (G (q.finish (.tuple #[])) A) w'):
  cO Fin O F (G (ak 24 (y ++ s6 15 U) [.code JX]) (q::A)) w:=by
 have a6:JX=JX:=rfl;conv at a6=>rhs;unfold JX;simp only[Try.f24]
 rw[a6];have e4:y.size=3:=by have:=hv.1;simpa using this.symm
 have b9:aB k #[J1 J2 n,J1 J2 W,.func (.func fw) #[] wc,U,U,U,U,U,U,U,U,U,U,U,U,U,U,U] (y ++ s6 15 U):=hv.ei 15;refine aa.ah c λw c=> ?_;refine aa.ej (Q:=λx' v'=>x'= #[J1 J2 n,J1 J2 W,.func (.func fw) #[] wc,J4 (some ⟨v.heap.size,0,none⟩),J4 (some ⟨v.heap.size + 1,0,none⟩),J4 (some ⟨v.heap.size + 2,0,none⟩),U,U,U,U,U,U,U,U,U,U,U,U]/\v'.heap=((v.heap.push (.cells #[J1 J2 n] 3)).push (.cells #[J1 J2 W] 3)).push (.cells #[.func (.func fw) #[] wc] 75)) bh ⟨_,Try.func24⟩ Zi Zh YU YU c b9 (λtp=> ?_) ?_
 ·go_wp2
  exact ⟨rfl,rfl⟩
 ·rintro t x1 y1 o w1 F1 P a7 ⟨rfl,z⟩ j c1;have B:ar v o:=⟨YS,λb C=>by rw[z];simp only[p9,Array.size_push];grind⟩;have e1:o.heap.size=v.heap.size + 3:=by rw[z];simp
  have c2:o.cell? ⟨v.heap.size,0,none⟩=some (J1 J2 n):=by unfold r6;rw[z,(EO _ _ _ _).1];rfl
  have c3:o.cell? ⟨v.heap.size + 1,0,none⟩=some (J1 J2 W):=by unfold r6;rw[z,(EO _ _ _ _).2.1];rfl
  have c4:o.cell? ⟨v.heap.size + 2,0,none⟩=some (.func (.func fw) #[] wc):=by unfold r6;rw[z,(EO _ _ _ _).2.2];rfl
  clear z;obtain ⟨cR,eR,a8,c5⟩:=b7;have a9:=aG a8;refine aa.ah j λw j=> ?_;refine aa.aC j λw j=> ?_;refine aa.Da (b:=base 24) (a:=⟨y1,[]⟩) (i:=0) (rest:= []) (.cells #[.int .u64 0,.int .u32 0] 101) rfl rfl (by simp[base]) (λ_=>Zk) (λ_=>YV) λl k2=> ?_;replace j:=j.rely k2;obtain ⟨m,b0⟩:=At.share (V:=V) (Wc:=Wc) (W:=W) (s:=s) (n:=n) (Rl:=Rl) (R:=R) a1 j (P _ _ hR) ⟨cR,eR,(B.2 _ a9).trans a8,c5⟩ (λg x h=>⟨a7.wr x (a3 g x h).1,(a3 g x h).2⟩);have c6:=j.bQ.size;have c7:=j.bQ.low Rl R _ (P _ _ hR) YQ;have b1:=(m.fg.out l.heap.size (.inr ⟨trivial,rfl⟩)).2;have c9:WgAt 101 l.heap.size (l.alloc (.cells #[.int .u64 0,.int .u32 0] 101)) 0 0:=by show (l.heap.push _)[l.heap.size]? =_;simp;rfl
  refine Way.phase (V:=V) (Wg:=l.heap.size) (pl:=C3 (min n W) []) (s:= []) c9 (Nat.le_refl _) b0 m.fg.ok b1 YS (λe6 _=>JB rfl λi=> ?_) ?_
  ·show ((C3 (min n W) [])[i]?).getD []=([]:List Ak);grind
  ·change aa Try.prog (E1 V O l.heap.size) true (mC Try.prog (E1 V O l.heap.size)) (λ_ _=>True) (Way Try.prog Fin (O.add l.heap.size)) 0 (λ_=>none) [] (.work false (C3 (min n W) []) []) _ (G (ak 24 (y1.setIfInBounds 6 (J4 (some ⟨l.heap.size,0,none⟩))) (.inRegion _ []::_)) (q::A)) _;have d0:VR (t.push (l.heap.size,.cells)) (J4 (some ⟨o.heap.size,0,none⟩)) (J4 (some ⟨l.heap.size,0,none⟩)):= .ptr ⟨YS,rfl,rfl⟩;have b2:=(aB.mono (gB t l.heap.size) c1).put (d:=some 6) d0;simp only[w8,A3,A4]at b2;have b3:=P.trans (gB t l.heap.size);have T: ∀b x,v.heap.size<=b->(t.push (l.heap.size,.cells))[b]? =some (x,.cells)-> ¬x=R:=λb x C X e=>by subst e;have:=m.bQ.inj b Rl x _ _ X (b3 _ _ hR) YQ YQ;omega
   have Y:ar v {o with heap:=o.heap.push (.cells #[] 101)}:=⟨YS,λb C=>by show (o.heap.push _)[b]? =_;rw[p9,if_neg YP];exact B.2 b C⟩;have r: ∀a u,o.cell? a=some u->r6 {o with heap:=o.heap.push (.cells #[] 101)} a=some u:=λa u h=>by rw[o4 (w:=o) (by show (o.heap.push _)[a.block]? =_;rw[p9,if_neg (by have:=cy h;omega)])];exact h
   have D:Az (dL (t.push (l.heap.size,.cells)) (λx=>x=R) (fi Wc W 0) {o with heap:=o.heap.push (.cells #[] 101)}) v.heap.size (v.heap.size + 1) (v.heap.size + 2) n W (.func (.func fw) #[] wc):=
    ⟨bz (r _ _ c2) λx X=>T _ x (Nat.le_refl _) X,bz (r _ _ c3) λx X=>T _ x YR X,bz (r _ _ c4) λx X=>T _ x YR X⟩
   have b4:=b8 _ _ b3 (λb b' x C d1=>m.bQ.inj b b' x _ _ C d1 YQ YQ) YS Y;have d2:PF (DR F1 Wc R s n W) Wc R s n W 0:=⟨rfl,λb h=>⟨h,m.fg.ok.wr b h⟩,a4⟩;have d3:(t.push (l.heap.size,.cells))[o.heap.size]? =some (l.heap.size,.cells):=by rw[c6];simp
   generalize dL (t.push (l.heap.size,.cells)) (λx=>x=R) (fi Wc W 0) {o with heap:=o.heap.push (.cells #[] 101)}=vE at m D b4;generalize l.alloc (.cells #[.int .u64 0,.int .u32 0] 101)=w3 at m ⊢;refine aa.aH m λw c=> ?_;refine aa.ah c λw c=> ?_;refine aa.ah c λw c=> ?_;obtain ⟨mn,K⟩: ∃mn:Nat,mn=min n W:=⟨_,rfl⟩;have e5:min (n:Int) (W:Int)=(mn:Int):=YP;rw[<-K]at a5 hK ⊢;have e2:=au K;refine aa.ej (Q:=λx' v'=>x'= #[J1 J2 n,J1 J2 W,.func (.func fw) #[] wc,J4 (some ⟨v.heap.size,0,none⟩),J4 (some ⟨v.heap.size + 1,0,none⟩),J4 (some ⟨v.heap.size + 2,0,none⟩),J4 (some ⟨o.heap.size,0,none⟩),U,J1 J2 n,J1 J2 W,J1 J2 mn,J1 J2 0,U,U,U,U,U,U]/\v'.heap=vE.heap) bh ⟨_,Try.func24⟩ Zi Zh YU YU c b2 (λtp=> ?_) ?_
   ·have h1:(aK vE tp 0).cell? ⟨v.heap.size,0,none⟩=some (J1 J2 n):=D.n;have h2:(aK vE tp 0).cell? ⟨v.heap.size + 1,0,none⟩=some (J1 J2 W):=D.w;clear K;go_wp2
    ·exact ⟨YP,rfl⟩
    ·exact ⟨YP,rfl⟩
   ·rintro d4 x4 y4 v4 w4 F4 b5 d5 ⟨rfl,e3⟩ c d6;have N: ∀b,b<vE.heap.size->v4.heap[b]? =vE.heap[b]? :=YS;have d7:=(a2 l.heap.size).ej 0 _ _ _ _ b5 YS N b4;refine aa.aV c λw c=> ?_;refine aa.dO c λw c=> ?_;refine xP (E:=E1 V O l.heap.size) (bG:=o.heap.size) (a2 l.heap.size) K (λb M C=>(a1 b M C).2) ?_ mn 0 d4 v4 F4 w y4 _ _ _ _ _ _ _ YP c (d2.le d5) d7 (D.keep N) (b5 _ _ d3) d6;intro d8 v5 F5 w5 y5 c d9 h6;have e7:NS=NS:=rfl;conv at e7=>rhs;unfold NS;simp only[Try.f24]
    rw[e7];refine aa.aC c λw c=> ?_;have b6:(#[Operand.tmp 6]:Array y8).map (v9 ⟨y5,[]⟩)= #[J4 (some ⟨l.heap.size,0,none⟩)]:=by simp only[List.map_toArray,List.map_cons,List.map_nil];rw[h6];rfl
    refine jK (E:=E1 V O l.heap.size) trivial rfl rfl rfl b6 λg' w6 k6 e0 Z=> ?_;have a0:=λb M C=>((c.rely k6).held b M C).2.2;replace c:=(c.rely k6).joined;refine Way.solo (aq.dG _) c.fg.ok ?_;refine Z _ _ _ _ _ _ _ _ _ _ _ YR c.fg.live λw7 k7=>aa.rely ?_ k7;refine aa.KB YR (λ_=>qj) ?_;refine aa.KB YR (λ_=>JK) ?_;refine aa.KB YR (λ_=>dT Try.func24 rfl) ?_;exact hK l.heap.size d8 v5 w6 c7 (λb C=>j.fg.dZ b (a7.rd b C)) d9 c (λf hf=>e0 f (L l.heap.size f) (by simp[ye,hf])) a0
theorem Bu (t:At (E0 O) k v F bO w)(N:aB k #[J1 J2 n,J1 J2 B,.func (.func fw) #[] y] Jt)
  (u: ∀d,iT (E1 V O d) Wc R s n B v.heap.size (v.heap.size + 1) (v.heap.size + 2) fw y fu cw (λ_=>none) J I (L d))
  (E:k[Rl]? =S (R,.cells))(z: ∃q e,v.heap[Rl]? =S (.cells q e (0,0))/\q.size=s * n)(C: ∀g x,Wc g x->F.wr x/\x≠R)(j: ∀g K b,Wc g b->Wc K b->g=K)(l:min n B<=1000000)
  (D: ∀c p,Ext k c->(∀b:Nat,c[b]? =S (R,.cells)->b=Rl)->ar v p->J 0 c (dL c (λx=>x=R) (fi Wc B 0) p))
  (P: ∀d c r i,R<d->J (min n B) c r->At (E0 (O.add d)) c r (.all i.heap.size (O.add d)) bO i->(∀f,f<min n B-> ∃H,L d f H i)->cO a (O.add d) (.all i.heap.size (O.add d)) (G (q.finish (.tuple #[])) A) i):
  cO a O F (G (ak 24 (Jt ++ s6 15 U) [.code JX]) (q::A)) w:=
 pL (bk:=λ_=>none) (λ_ _ h=>by cases h) t N u E z C j l (λc p M m _ o=>D c p M (λb Q=>m b Rl R Q (M _ _ E)) o) λd c r i T _ W X Y _=>P d c r i T W X Y
end
end
