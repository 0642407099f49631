/- WholeBanks: part 5. -/
import Derived.Test.YtheopdnafbkhpaaQa
import Derived.Test.YtheopdnafbkhpaaQ4
import Derived.Test.YtheopdnafbkhpaaQ3
import Derived.Test.YtheopdnafbkhpaaQ2
import Derived.Maps.AppendAt
import Derived.Test.YtheopdnafbkhpaaRows
import Derived.WalkKit
import Derived.ProofKit
import Derived.OpenShut
import Derived.SizedLaws
set_option maxRecDepth 100000
set_option maxHeartbeats 8000000
set_option linter.unusedVariables false
set_option linter.unusedSimpArgs false
open Array renaming any_eq_true'->E4,ext_getElem?->C0,getD_eq_getD_getElem?->A2,getElem?_eq_getElem->p8,getElem?_eq_none->r6,getElem?_eq_some_iff->q9,getElem?_map->z8,getElem?_range->E2,getElem?_setIfInBounds->C8,range->G3,replicate->B0
open Bool renaming and_eq_true->D2,false_eq_true->s7
open Classical renaming choose_spec->D8,choose->C7,em->D6,skolem->G2
open False renaming elim->D7
open Go renaming Act->H8,Addr->E7,Calls->E6,Code->r3,IntKind->H0,Operand->z9,Oper->E3,TypeId->E5,Value->q6,execOp->r4,getD_set_ne->r9,resolve->G9,run_append_own_at->G0,run_loadAt_mid->D9,undef->U,yielded->G4
open Go.Act renaming eval_put->A8,eval->s6,put->D5
open Go.Addr renaming add_mid->F0,add->H9
open Go.Builtin renaming append_->B8
open Go.Code renaming region->C1
open Go.FloatKind renaming f64->I1
open Go.Instr renaming indexAt->G8,loadAt->E8
open Go.IntKind renaming bits->H4,i64->I3,signed->G6,wrap_i64->C5
open Go.Lit renaming int->G5
open Go.Operand renaming tmp->D1
open Go.Region renaming binds->D4,wanted->A9
open Go.Result renaming andThen_ok->G1
open Go.Sem renaming run_bind->H2,run_pure->H3
open Go.Value renaming cells->H7,complex->I0,int->I2,pointer->I4,slice->H6
open Go.World renaming cell?_of_block->A7,cell?->u0,frozen?->G7,ownsRow_nil->E9
open List renaming all_eq_true->C6,drop_succ_cons->C9,drop_zero->A5,getElem?_append_right->A4,map_cons->q7,map_nil->q8,map_toArray->p9,range'->r7,range->A3,take_succ_cons->r5,take_zero->A6
open Nat renaming le_refl->C3,le_trans->x0,lt_of_lt_of_le->z7,not_lt_zero->B6,zero_le->H5
open Option renaming getD_some->C4,map_some->B1,some->S
open Option.some renaming inj->B5
namespace Go.Proofs.Ytheopdnafbkhpaa
open Go.Conc Go.ConcN Go.RowKit
variable {A:Act}{B E:Nat->Nat}{C:TypeId}{D:Value->World->Prop}{F:aq}{H:Nat->Nat->C2×C2}{I v w:World}{J:Nat->Option Obj}{L M N W X Y i j k m n:Nat}{O:Nat->Nat->dM}{P:Program}{Q:Exit->Act->World->Prop}{T:Array Goroutine}{V q z:Value}{Z:Int}{a:aq->Goroutine->World->Nat->Prop}{b:Operand->Value}{c:Option Addr}{d:aU}{e:Sx}{f:Nat->C2}{g:Nat->C2×C2}{h:Array Oper}{l:List Frame}{o:Oper}{r:Option Nat}{s:Array Bool}{t:List Item}{u:Nat->Value}{x:Operand}{y:Array Value}
theorem Zx{p:Prop}(h:p:=by kernel_rfl):p:=h
theorem Zz{p:Prop}(h:p:=by simp[Ph.late]):p:=h
theorem ZA{p:Prop}(h:p:=by rw[IntKind.wrap_i64];omega):p:=h
section
open Classical
theorem iT.ty {E:Env}{b:Nat->Nat->Prop}{R:Nat}{c:FuncId}{d:Func}{e:r3}{r:ca}{J:Nat->aU->World->Prop}{I:Nat->(Nat->Prop)->aU->World->aq->cH->Prop}{L:Nat->bC}(h:iT E b R i n W k j N c y d e r J I L)(g:World):iT E b R i n W k j N c y d e r (λf ρ v=>J f ρ v/\Ty g v) I L where
 on:=h.on
 w0:=h.w0
 s0:=h.s0
 small:=h.small
 fn:=h.fn
 name:=h.name
 body:=h.body
 ej f ρ ρ' v v' h1 h2 h3 a:=⟨h.ej f ρ ρ' v v' h1 h2 h3 a.1,a.2.trans (Ty.low ⟨h2,h3⟩)⟩
 next f ρ v a:=⟨h.next f ρ v a.1,a.2.trans (Ty.ex _ _ _ _)⟩
 child f ρ v F A B val w h1 h2 a h3:=h.child f ρ v F A B val w h1 h2 a.1 h3
 work:=h.work
 stay:=h.stay
 OG:=h.OG
 keep:=h.keep
 apart f ρ v a:=h.apart f ρ v a.1
def Sy (n c:Nat)(L:Nat->Nat)(v b:World):Prop:=v.heap.size<=b.heap.size/\ ∀a u,a.block≠c->(∀i,i<n->a.block≠L i)->v.cell? a=S u->b.cell? a=S u
theorem Wb.box(h:v.cell? ⟨i,j,none⟩=some z)(b:v.frozen? ⟨i,j,none⟩=false):Wb v i:=by
 unfold u0 at h;unfold G7 at b;cases a:v.heap[i]? with
 | none=>grind
 | some d=>
  cases d with
  | cells c e f=>simp[a]at h b;exact ⟨c,e,f,a,j,(q9.1 h).1,λ⟨g,k⟩=>YP⟩
  | _=>simp[a]at h
section
variable {bk:Nat->Option Obj}{bM Rl bA Rw bR bP xM x8 xA xR:Nat}{ad:Option Addr}{L:Nat->Nat}{X:Nat->C2}{Z:Nat->C2}{c:Frame}
theorem vc (o:At (E0 e) d v F (vB bk) w)(b5: ∀b ob,bk b=S ob->uq ob)(e6:fT d)(t:wX I v W n m i k j M bM Rl bA Rw bR E B L f O Z)(hP:v.cell? ⟨bP,0,none⟩=S (.slice ad m m))(h7:bR<bP)(hl:bj v (.slice ad m m) m X)(c4: ∀b a8,ad=S ⟨b,a8,none⟩->b<I.heap.size)
  (h8:0<m)(hm:m<=1000000)(e7:0<n)(hn:n<=1000)(A:1<=W)(P:W<=64)(c5: ∀g,g<n->E g<=16)(rM:d[bM]? =S (xM,.cells))(r8:d[j]? =S (x8,.cells))(rA:d[bA]? =S (xA,.cells))(rR:d[bR]? =S (xR,.cells))
  (hv:aB d #[I2 I3 n,I2 I3 W,.func (.func 41) #[] #[I4 (S ⟨j,0,none⟩),I4 (S ⟨bP,0,none⟩),I4 (S ⟨bA,0,none⟩)]] y)
  (hK: ∀S' D v' F' w' bs,S'.lq e->Ext d D->At (E0 S') D v' F' (vB bk) w'->Sy n Rl L v v'->wZ v' n m m bP bA Rl bR Rw ad bs (Cz E f O X)->ot v' M 0 m bM Z->lI v' Rw n 0 (λ_=>(none,none))->(∀g,g<n->bs g≠Rw/\bs g≠M/\bs g≠bM)->cO a S' F' (G (c.finish (.tuple #[])) l) w'):
  cO a e F (G (ak 24 (y ++ B0 15 U) [.code JX]) (c::l)) w:=by
 obtain ⟨o1,o2,o3,o4,o5,o6,o7,o8,o9⟩:=t.ord;obtain ⟨R,Q⟩:=ix o.bQ rA t.an;obtain ⟨A',e8⟩:=ix o.bQ r8 t.wk;obtain ⟨xg,hg⟩:=ix o.bQ rM t.mo.c;obtain ⟨xw,hw⟩:=ix o.bQ rR t.rw;have e9: ∀g,∃x,g<n->d[L g]? =S (x,.cells):=λg=>by
  by_cases p:g<n
  ·obtain ⟨M,g',f0,A,_⟩:=t.dp g p;have f1:=A 0 _ rfl;have f2:=A 1 _ rfl;obtain ⟨x1,f3⟩:=Af o.bQ e8 (t.works g p) f1;obtain ⟨x2,f4⟩:=ix o.bQ f3 f2;exact ⟨x2,λ_=>f4⟩
  grind
 obtain ⟨Lr,C⟩:=G2.1 e9;have a5: ∀ {b b' x:Nat},d[b]? =S (x,.cells)->d[b']? =S (x,.cells)->b=b':=λ{b b' x} A P=>o.bQ.inj _ _ _ _ _ A P YQ YQ;have K: ∀g,g<n->i<L g/\L g<j:=λg p=>⟨(t.new g p).2,(t.top g p).2⟩;let HD:=λx=>x=R\/MJ Lr n x;let KW:=λx=>x=R\/ ∃g,g<n/\0<E g/\x=Lr g;have f5: ∀x,KW x->HD x:=λx h=>h.elim .inl λ⟨g,p,_,r⟩=> .inr ⟨g,p,r⟩;have c6: ∀b x,d[b]? =S (x,.cells)->b≠Rl->(∀g,g<n->b≠L g)-> ¬HD x:=λb x q A P h=>by
  rcases h with rfl | ⟨g,p,rfl⟩
  ·exact A (a5 q Q)
  ·exact P g p (a5 q (C g p))
 obtain ⟨cl,b7,h9⟩:=t.rl;have a6: ∀x,KW x->F.wr x:=λx h=>by
  rcases h with rfl | ⟨g,p,h0,rfl⟩
  ·exact o.fp.wb _ _ Q ⟨cl,_,_,b7,0,YP,YP⟩
  ·obtain ⟨M,g',f0,_,_,h3,_⟩:=t.dp g p;exact o.fp.wb _ _ (C g p) (Wb.there h3.1 YP)
 have c7: ∀x,HD x-> ∃b:Nat,d[b]? =S (x,.cells):=λx h=>by
  rcases h with rfl | ⟨g,p,rfl⟩
  ·exact ⟨_,Q⟩
  ·exact ⟨_,C g p⟩
 have c9: ∀b x:Nat,d[b]? =S (x,.num)-> ¬HD x:=λb x q h=>by obtain ⟨b',a9⟩:=c7 x h;have:=o.bQ.inj _ _ _ _ _ q a9 YQ YQ;grind
 refine cO.tI λw1 k1 i0=> ?_;replace o:=o.rely k1;have q:At (E0 e) d (dL d HD (λx=>F.wr x/\ ¬HD x) v) ⟨λb=>F.rd b/\ ¬HD b,λb=>F.wr b/\ ¬HD b,λ_ _=>False⟩ bO w1:=
  o.ex (λx A P=>⟨A,P⟩) (λx h=>⟨h,⟨o.fg.ok.wr x h.1,h.2⟩⟩) (λb x q=>⟨o.fp.num b x q,c9 b x q⟩) ⟨⟨λb h=>⟨o.fg.ok.wr b h.1,h.2⟩,λ_ _ h=>h.elim⟩,λ_ _ h=>h.elim,λb h=>o.fg.dZ b h.1,λb q=>⟨(o.fg.out b q).1,λh=>(o.fg.out b q).2.1 h.1,λ_ h=>h⟩,o.fg.live,λb q=>⟨λh=>(o.fg.pure b q).1 h.1,λ_ h=>h⟩⟩ (λ_ _ h=>h.elim) (pQ _ _)
 let b8:=λb=>if F.rd b/\ ¬HD b then w1.heap[b]? else none
 have a1:At (E0 e) d (dL d (λ_=>False) KW v) ⟨F.rd,KW,λ_ _=>False⟩ ⟨λ_ _=>none,b8,λ_=>none⟩ w1:=
  o.ex (λx h _=>h) (λx h=>⟨h,o.fg.ok.wr x (a6 x h)⟩) (λb x q=>o.fp.num b x q) ⟨⟨λb h=>o.fg.ok.wr b (a6 b h),λ_ _ h=>h.elim⟩,λ_ _ h=>h.elim,o.fg.dZ,λb q=>⟨(o.fg.out b q).1,(o.fg.out b q).2.1,λ_ h=>h⟩,o.fg.live,λb q=>⟨λh=>(o.fg.pure b q).1 (a6 b h),λ_ h=>h⟩⟩ (λ_ _ h=>h.elim) λb ob q=>by
   simp only[b8]at q;split at q
   ·rename_i h;exact ⟨h.1,λe4=>h.2 (f5 b e4),q⟩
   ·cases q
 refine ⟨⟨F.rd,KW,λ_ _=>False⟩,⟨λb h=>⟨o.fg.dZ b h,λhs=>(o.fg.out b (.inl hs)).2.1 h⟩,λb h=> ?_,λ_ _ h=>h.elim⟩,a1.fg.ok,?_⟩
 ·have h':=o.fg.ok.wr b (a6 b h);exact ⟨⟨o.fg.dZ b h',λhs=>(o.fg.out b (.inl hs)).2.1 h'⟩,Nat.not_lt.1 λq=>(o.fg.pure b q).1 (a6 b h)⟩
 have a0: ∀b3 u,v.cell? b3=S u->(dL d (λ_=>False) KW v).cell? b3=S u:=λb3 u h=>bz h λ_ _ h=>h;have b6:(dL d (λ_=>False) KW v).heap.size=v.heap.size:=bq;have d0:aA v (dL d (λ_=>False) KW v):=⟨YP,a0⟩;have d1:Ty v (dL d (λ_=>False) KW v):=Ty.ex _ _ _ _;have a2:(dL d (λ_=>False) KW v).heap[Rl]? =S (.cells cl 24 (0,0)):=jS b7 Q (.inl rfl);have a3:=λg p=>(t.dp g p).mv (λe5 u h=>a0 _ _ h) (λh0=>by have hl:=(t.dp g p).lt.2.1;rw[jS (h:=p8 hl) (C g p) (.inr ⟨g,p,h0,rfl⟩),p8 hl]) YP;generalize i1:dL d (λ_=>False) KW v=vS at a1 a0 b6 d0 d1 a2 a3;have d3: ∀ {b:Nat}{u:Value},v.cell? ⟨b,0,none⟩=S u->b<vS.heap.size:=λh=>by rw[b6];exact cy h
 have i2:=d3 t.wk;have d4:=aG a2;have hp:PM vS.heap.size n i j bP bA m ad E B L:=⟨λg p=>by have:=K g p;omega,t.lN,λg e4 p hk r=>t.mH g e4 p hk r.symm,λg p=>by have:=K g p;omega,λg b a8 p r _=>by have:=c4 b a8 r;have:=K g p;omega,c5⟩;have hq:Qp i j bP bA Rl m ad:=⟨YP,YP,YP,YP,λb a8 r _=>by have:=c4 b a8 r;omega⟩;have f6:sF vS n i j bP bA Rl m m ad B X:=⟨a0 _ _ t.wk,a0 _ _ hP,a0 _ _ t.an,λg p=>a0 _ _ (t.works g p),hl.av d0⟩;have f7:=a1.bQ.size;refine pL (V:=λ_ _ _=>False) (Wc:=GP n W E Lr) (Rl:=Rl) (R:=R) (s:=1) (n:=n) (W:=W) (J:=λd5 D v'=>RM d vS Rl n W vS.heap.size (vS.heap.size + 1) (vS.heap.size + 2) E B L Lr f O d5 D v'/\Ty vS v') (L:=λWg=>RO d e R n m W Wg (Cz E f O X)) (λb ob q=> ?_) a1 hv (λWg=>(Ja (N:=vS.heap.size) (cp:=m) YP YP hn hm hp hq (Nat.le_refl _) (Nat.le_refl _) f7 (λb b' x h h'=>a5 h h') Q C f6 (λg p=>by have:=(a3 g p).lt.1;omega) (Nat.le_refl _) (Nat.le_succ _) YP Wg).ty vS) Q ⟨cl,_,a2,YP⟩ (λM x T=> ?_) (λM g' b q a9=> ?_) YP ?_ ?_
 ·simp only[b8]at q;split at q
  ·rename_i h;exact ⟨λr=>h.2 (.inl r),λM ⟨g,p,_,_,r⟩=>h.2 (.inr ⟨g,p,r⟩)⟩
  ·cases q
 ·obtain ⟨g,p,_,h0,rfl⟩:=T;exact ⟨.inr ⟨g,p,h0,rfl⟩,λr=>by have:=a5 (C g p) (r▸Q);have:=K g p;omega⟩
 ·obtain ⟨g,p,e1,_,rfl⟩:=q;obtain ⟨e5,hj,e2,_,r⟩:=a9;have i3:=Classical.byContradiction λf8=>t.lN g e5 p hj f8 (a5 (C g p) (r▸C e5 hj));grind
 ·intro D v1 hE a4 i4 z;have i5: ∀g,g<n-> ∀x,D[L g]? =S (x,.cells)-> ¬x=R:=λg p x T r=>by subst r;have:=a4 _ _ _ T (hE _ _ Q);have:=K g p;omega
  refine ⟨⟨hE,by rw[bq];exact z.1,λb3 u ha _ hu=>bz (z.cell hu) λx T r=>ha (by subst r;exact a4 _ _ _ T (hE _ _ Q)),?_,λg p _=> ?_,λb q=> ?_⟩,(Ty.low z).trans (Ty.ex _ _ _ _)⟩
  ·have q3:=(z.2 _ d4).trans a2;refine ⟨24,(0,0),?_⟩;unfold dL;exact gE q3 (λ⟨x,T,M,_,_,g,p,_,_,r⟩=>by have A:=hE _ _ Q;rw[T]at A;cases A;have:=a5 (r▸Q) (C g p);have:=K g p;omega) λh=>h R (hE _ _ Q) rfl
  ·have hl:=(a3 g p).lt.2.1;have f9:B g≠Rl:=by have:=(t.top g p).1;omega
   refine (a3 g p).mv (λe5 u h=>bz (z.cell h) λx T r=>f9 (by subst r;exact a4 _ _ _ T (hE _ _ Q))) (λh0=> ?_) (by rw[bq];exact z.1);rw[<-z.2 _ hl];have d6:=Nat.lt_of_lt_of_le hl z.1;rw[jS (h:=p8 d6) (hE _ _ (C g p)) ⟨g % W,Nat.zero_le _,Nat.mod_lt _ YP,g,p,rfl,h0,rfl⟩,p8 d6]
  ·have g0:b<D.size:=by omega
   refine ⟨_,p8 g0,λg p r=> ?_⟩;have:=a4 b (L g) (Lr g) (by rw[<-r];simp) (hE _ _ (C g p));have:=K g p;omega
 ·intro Wg D v' w' i6 g1 hJ b0 hL b9;have b1: ∀x,F.rd x/\ ¬HD x->w'.heap[x]? =w1.heap[x]? :=λx T=>by have A:=o.fg.dZ x T.1;obtain ⟨ob,g2⟩: ∃ob,w1.heap[x]? =S ob:=⟨_,p8 A⟩;rw[g2];exact b9 x ob YS
  have c1: ∀b,e b\/b=Wg-> ¬F.rd b:=λb hs hr=>hs.elim (λh=>(o.fg.out b (.inl h)).2.1 hr) λh=>by have:=g1 b hr;omega
  have d7:=At.restore (S':=e.add Wg) q b0 hJ.1.ext.w ((Ty.Ps _ _ _ _).trans (d1.trans hJ.2)) (λb x h=>b1 x (q.fp.num b x h)) (λb x A P=>b1 x (q.fp.dc b x A P)) (λb hs=>⟨(b0.fg.out b (.inl hs)).1,λhr=>c1 b hs hr.1⟩) rfl b0.fg.live.2;have g3: ∀g,∃X',g<n->(∀b:Nat,d[b]? ≠S (X',BK.cells))/\((∃c r fz,w'.heap[R]? =S (.cells c r fz)/\c.size=n/\c[g]? =S (H6 (S ⟨X',0,none⟩) m m))/\mB w' X' m (Cz E f O X g)/\(0<m-> ¬ (e X'\/X'=Wg))):=λg=>by
   by_cases p:g<n
   ·have i7:g % W<W:=Nat.mod_lt _ YP;have h4:g % W<=g:=Nat.mod_le _ _;obtain ⟨H,h⟩:=hL (g % W) YP;obtain ⟨X',q0,_,q2,q3,q4⟩:=h g p rfl;exact ⟨X',λ_=>⟨q0,q2,q3,λh0=>(q4 h0).2⟩⟩
   ·exact ⟨0,λh=>absurd h p⟩
  obtain ⟨Xs,d8⟩:=G2.1 g3;have g4: ¬ (e R\/R=Wg):=λh=>c1 R h (o.fg.ok.wr R (a6 R (.inl rfl)));have g5: ∃r d5,(dL d HD (λx=>F.wr x/\ ¬HD x) v).heap[Rl]? =S (.cells #[] r d5):=⟨_,_,gE b7 (λ⟨x,T,_,h⟩=>h (by rw[Q]at T;cases T;omega)) λh=>h R Q (.inl rfl)⟩;obtain ⟨g6,v2,bs,e2,d9,k2,d2,P⟩:=d7.answers (S':=(e.add Wg).s) (Y:=Cz E f O X) (Xs:=Xs) e6 Q g5 (λb q hs=>⟨q,hs⟩) g4 e7 λg p=>(d8 g p).2;have b4: ∀b3 u,b3.block≠Rl->(∀g,g<n->b3.block≠L g)->v.cell? b3=S u->v2.cell? b3=S u:=λb3 u A P hu=>k2.2 _ _ (bz hu λx T=>c6 _ x T A P);have b2: ∀ {b x:Nat},d[b]? =S (x,.cells)->Wb v b->b≠Rl->(∀g,g<n->b≠L g)->v2.heap[b]? =v.heap[b]? :=λ{b x} q e0 A P=>by have hF:=o.fp.wb _ _ q e0;obtain ⟨c,r,d5,q1,q2⟩:=e0;have q3:=jS (X:=HD) (Wk:=λx=>F.wr x/\ ¬HD x) q1 q ⟨hF,c6 _ _ q A P⟩;obtain ⟨e4,hk,_⟩:=q2;rw[d2 b ⟨c,r,d5,q3,YP⟩,q3,q1]
  have c2: ∀g,g<n-> ∀b x:Nat,d[b]? =S (x,.cells)->bs g≠b:=λg p b x q r=>by have A:=(P g p).2.1;rw[r,e2 _ _ q]at A;cases A;exact (d8 g p).1 b q
  have a7: ∀ {b:Nat},j<=b-> ∀g,g<n->b≠L g:=λh g p=>by have:=K g p;omega
  obtain ⟨cg,g7,h5,_⟩:=t.mo.o.block;obtain ⟨cw,g8,h6,_⟩:=t.rr;have eM:=b2 rM (Wb.box t.mo.c t.mo.f) YP (a7 YP);have eg:=b2 hg ⟨cg,_,_,g7,0,YP,YP⟩ YP (a7 YP);have ew:=b2 hw ⟨cw,_,_,g8,0,YP,YP⟩ YP (a7 YP);refine cO.hold (bk:=bk) d9 (λb ob c3=> ?_) λF3 w3 e3=> ?_
  ·obtain ⟨q1,_,q3⟩:=o.held b ob c3;have g9: ¬HD b:=λh=>by obtain ⟨b',a9⟩:=c7 b h;obtain ⟨_,_,_,_,_,_,p2,_⟩:=o.bQ.cells _ _ a9;rw[q3]at p2;have:=b5 b ob c3;cases p2;exact this
   have q4:=(b1 b ⟨q1,g9⟩).trans q3;exact ⟨⟨aG q4,λhs=>c1 b hs q1⟩,q4,b5 b ob c3⟩
  ·exact hK _ g6 v2 F3 w3 bs ⟨rfl,rfl⟩ e2 e3 ⟨by have:=k2.1;rw[bq]at this;exact this,b4⟩ ⟨b4 _ _ (by show bP≠Rl;omega) (a7 (by show j<=bP;omega)) hP,b4 _ _ (by show bA≠Rl;omega) (a7 (by show j<=bA;omega)) t.an,λg p=>(P g p).1,λg p=>(P g p).2.2,b4 _ _ (by show bR≠Rl;omega) (a7 (by show j<=bR;omega)) t.rw⟩ (t.mo.low eM eg) (t.rr.low ew) λg p=>⟨c2 g p _ _ hw,c2 g p _ _ hg,c2 g p _ _ rM⟩
end
end
section
variable {ρ:aU}{v:World}{n g bM Rl bA Rw bR bP:Nat}{L:Nat->Nat}{X:Nat->C2}{Z:Nat->C2}{x:Array Value}
def Sz (n c d g e:Nat)(L:Nat->Nat)(v b:World):Prop:=v.heap.size<=b.heap.size/\ ∀a u,a.block≠c->(∀i,i<n->a.block≠L i)->(a.block≠d/\a.block≠g/\a.block≠e)->v.cell? a=S u->b.cell? a=S u
theorem tN(b:dA d v w)(c:v.cell? ⟨i,0,none⟩=S q)(h:VR d (ptr i) z): ∃y,d[i]? =S (y,.cells):=by
 cases h with
 | ptr h=>exact ⟨_,h.1⟩
 | num h _ _=>obtain ⟨a,e,l,f,_⟩:=b.num _ _ h;unfold u0 at c;grind
theorem xO (g:At (E0 e) ρ v F (vB J) w)(r: ∀b ob,J b=S ob->uq ob)(P:fT ρ)(A:wX I v W n m i k j N M Rl bA Rw bR E B L f O Z)(hP:v.cell? ⟨bP,0,none⟩=S (.slice c m m))(b4:bR<bP)(hl:bj v (.slice c m m) m X)(T: ∀b b5,c=S ⟨b,b5,none⟩->b<I.heap.size)
  (b6:0<m)(hm:m<=1000000)(b7:0<n)(hn:n<=1000)(h1:1<=W)(h2:W<=64)(s: ∀d5,d5<n->E d5<=16)(hZ: ∀b8,b8<m->Z b8=nU (λd6=>Cz E f O X d6 b8) n)(b9:x.size=77)(s5:x[5]? =S (ptr k))(s8:x[8]? =S (ptr j))(V:x[10]? =S (ptr M))(a0:x[11]? =S (ptr bA))(a1:x[12]? =S (ptr bR))(a2:x[13]? =S (ptr bP))(hv:aB ρ x y)
  (hK: ∀S' a6 v' F' w' y',S'.lq e->Ext ρ a6->At (E0 S') a6 v' F' (vB J) w'->Sz n Rl Rw N M L v v'->ot v' N m m M Z->cO a S' F' (G (aR (S Y,[]) 17 y' []) l) w'):
  cO a e F (G (aR (S Y,[]) 17 y [.code jZ]) l) w:=by
 obtain ⟨o1,o2,o3,o4,o5,o6,o7,o8,o9⟩:=A.ord;have eR:jZ=jZ:=rfl;have eO:jv=jv:=rfl;conv at eR=>rhs;unfold jZ km;simp only[Try.f17]
 conv at eO=>rhs;unfold jv oU km;simp only[Try.f17]
 rw[eR];obtain ⟨u,hx,C⟩:=lC b9;rw[C 5 _ s5,C 8 _ s8,C 10 _ V,C 11 _ a0,C 12 _ a1,C 13 _ a2]at hx;rw[hx]at hv;refine aa.go g YR (λ_=>mY) λw g=> ?_;refine aa.go g YR (λ_=>gK) λw g=> ?_;refine aa.go g YR (λ_=>ES) λw g=> ?_;rw[<-eO];refine aa.OQ (L:= [0,1,2,3]) (rest:= [4]) (ey:= #[_,_,_,_]) (Q:=λD v'=>D= #[u 0,u 1,u 2,u 3,u 4,ptr k,u 6,u 7,ptr j,u 9,ptr M,ptr bA,ptr bR,ptr bP,u 14,u 15,u 16,u 17,u 18,u 19,u 20,u 21,u 22,u 23,u 24,u 25,u 26,u 27,u 28,u 29,u 30,u 31,u 32,u 33,u 34,u 35,u 36,u 37,u 38,u 39,u 40,u 41,u 42,u 43,u 44,H6 (S ⟨i,0,none⟩) n n,I2 I3 n,I2 I3 W,.func (.func 41) #[] #[ptr j,ptr bP,ptr bA],u 49,u 50,u 51,u 52,u 53,u 54,u 55,u 56,u 57,u 58,u 59,u 60,u 61,u 62,u 63,u 64,u 65,u 66,u 67,u 68,u 69,u 70,u 71,u 72,u 73,u 74,u 75,u 76]/\v'.heap=v.heap) bh ⟨_,Try.func17⟩ Zz 0 (.cons ⟨_,R,R,Zx,R⟩ (.cons ⟨_,R,R,Zx,R⟩ (.cons ⟨_,R,R,Zx,R⟩ (.cons ⟨_,R,R,Zx,R⟩ .nil)))) Zx YU YU g hv (λtp=> ?_) ?_
 ·have k0:(aK v tp 0).cell? ⟨j,0,none⟩=S (H6 (S ⟨i,0,none⟩) n n):=A.wk;have k1:(aK v tp 0).cell? ⟨k,0,none⟩=S (I2 I3 W):=A.w;clear g hv r P A hP hl T hZ hK hx C eR eO s5 s8 V a0 a1 a2 s;unfold ptr;go_wp2
  rfl
 rintro c1 x2 y2 v2 w2 F2 a7 d7 ⟨rfl,H⟩ g p;have o:=ar.heap H;obtain ⟨xM,rM⟩:=tN g.bQ (o.cell A.mo.c) (p.ev (t:=10) R);obtain ⟨x8,r8⟩:=tN g.bQ (o.cell A.wk) (p.ev (t:=8) R);obtain ⟨xA,rA⟩:=tN g.bQ (o.cell A.an) (p.ev (t:=11) R);obtain ⟨xR,rR⟩:=tN g.bQ (o.cell A.rw) (p.ev (t:=12) R);refine aa.go g YR (λ_=>II R R R Try.func24 Zx CZ) λw g=> ?_;have a8:aB c1 #[I2 I3 n,I2 I3 W,.func (.func 41) #[] #[I4 (S ⟨j,0,none⟩),I4 (S ⟨bP,0,none⟩),I4 (S ⟨bA,0,none⟩)]] ((#[D1 46,.tmp 47,.tmp 48]:Array z9).map (s6 ⟨y2,[]⟩)):=FW (p.ev (t:=46) R) (p.ev (t:=47) R) (p.ev (t:=48) R);refine vc g r (P.ext a7) (A.keep o) (o.cell hP) b4 (hl.av o.av) T b6 hm b7 hn h1 h2 s rM r8 rA rR a8 ?_;intro S' d8 v3 F3 w3 bs c2 a9 g a3 a4 b0 b1 b2;rw[vY R];have a5:=(aB.mono a9 p).put (d:=S 49) VR.unit;simp only[List.setIfInBounds_toArray,List.set_cons_succ,List.set_cons_zero]at a5;refine aa.go g YR (λ_=>LU) λw g=> ?_;refine aa.go g YR (λ_=>gK) λw g=> ?_;refine aa.lY (Q:=λD v'=>D.size=77/\D[10]? =S (ptr M)/\D[11]? =S (ptr bA)/\D[12]? =S (ptr bR)/\D[13]? =S (ptr bP)/\D[51]? =S (I2 I3 m)/\D[52]? =S (I2 I3 (0:Nat))/\v'.heap=v3.heap) bh ⟨_,Try.func17⟩ Zz Zx YU YU g a5 (λtp=> ?_) ?_
 ·have k0:(aK v3 tp 0).cell? ⟨bP,0,none⟩=S (.slice c m m):=a4.pc;clear g hv r P A hP hl T hZ hK hx C eR eO s5 s8 V a0 a1 a2 s p a8 a5 a3 a4 b0 b1 b2 o H;unfold ptr;go_wp2
  rfl
 rintro b3 x5 y5 v5 w5 F5 c3 d9 ⟨z0,c4,c5,c6,c7,c9,d0,q⟩ g d1;have z:=ar.heap q;refine aa.go g YR (λ_=>mY) λw g=> ?_;refine aa.go g YR (λ_=>EP) λw g=> ?_;have hs:GF n bP bA Rl bR Rw N M bs:=⟨YP,YP,YP,YP,b2,YP⟩;refine DN (iS:=b3) (vb:=v5) (Y:=Cz E f O X) (Z:=Z) hs hn hm hZ ?_ m 0 b3 v5 F5 w x5 y5 YP g (.refl _) (.refl _) (a4.kp hs (.of z)) (b0.low (by rw[q]) (by rw[q])) (b1.low (by rw[q])) ⟨z0,c4,c5,c6,c7,c9,d0⟩ d1;intro d2 v6 F6 w x6 y6 g d3 K d4 _ e0;refine aa.go g YR (λ_=>ld) λw g=> ?_;refine hK S' d2 v6 F6 w y6 c2 (((a7.trans a9).trans c3).trans d3) g ⟨x0 o.1 (x0 a3.1 (x0 z.1 K.1)),λe1 u q1 q2 q3 C=>K.cell q3 (z.cell (a3.2 e1 u q1 q2 (o.cell C)))⟩ d4
end
section
variable {ad:Option Addr}{c:Frame}
theorem xI (b:At (E0 e) d v F (vB J) w)(o:v.cell? ⟨n,0,none⟩=S (.slice ad 0 k))(m:aB d #[ptr n,ptr j] y)
  (K: ∀r q I L,Ext d r->q.heap=v.heap->At (E0 e) r q I (vB J) L->cO a e I (G (c.finish (.tuple #[])) l) L):
  cO a e F (G (ak 69 (#[.func (.yield Y) #[] #[]] ++ y ++ Array.replicate (31 - (1 + y.size)) undef) [.code qE]) (c::l)) w:=by
 have M:qE=qE:=rfl;conv at M=>rhs;unfold qE;simp only[Try.f69]
 have T:y.size=2:=by have:=m.1;simpa using this.symm
 have p:aB d #[Value.nilFunc] #[.func (.yield Y) #[] #[]]:=⟨R,λi x a1 N V=>by
  cases i with
  | zero=>cases N;cases V;exact .qH _ trivial
  | succ i=>simp at N⟩
 have f:=(aB.append p m).ei 28;have z:(#[Value.nilFunc] ++ #[ptr n,ptr j]:Array Value)= #[.nilFunc,ptr n,ptr j]:=YR;rw[z,JP]at f;have A:31 - (1 + y.size)=28:=YP;rw[A];generalize (#[.func (.yield Y) #[] #[]] ++ y ++ Array.replicate 28 undef:Array Value)=y0 at f ⊢;rw[M];refine aa.ah b λw b=> ?_;refine aa.ej (Q:=λB q=>B= #[Value.nilFunc,ptr n,ptr j,undef,I2 I3 0,undef,undef,undef,undef,undef,undef,undef,undef,undef,undef,undef,undef,undef,undef,undef,undef,undef,undef,undef,undef,undef,undef,undef,undef,undef,undef]/\q.heap=v.heap) bh ⟨_,Try.func69⟩ Zz Zx YU YU b f (λO=> ?_) ?_
 ·clear b f K m p o;unfold ptr;go_wp2
  rfl
 rintro W x2 y2 P w2 F2 C X ⟨rfl,g⟩ b s;refine aa.aV b λw b=> ?_;refine aa.dO b λw b=> ?_;refine aa.ah b λw b=> ?_;refine aa.ah b λw b=> ?_;refine aa.ej (Q:=λB q=>B[9]? =S (.bool false)/\q.heap=P.heap) bh ⟨_,Try.func69⟩ Zz Zx YU YU b s (λO=> ?_) ?_
 ·have k0:(aK P O 0).cell? ⟨n,0,none⟩=S (.slice ad 0 k):=(aA.heap g).2 _ _ o;clear b f K m p o s g;unfold ptr;go_wp2
  rfl
 rintro D x4 y4 Z w4 F4 E a0 ⟨h9,u⟩ b H;refine aa.go b YR (λ_=>bH (H.bool (t:=9) h9)) λw b=> ?_;simp only[s7, ↓reduceIte];refine aa.go b YR (λ_=>fe R) λw b=> ?_;refine aa.gQ b λw b=> ?_;refine aa.go b YR (λ_=>dT Try.func69 R) λw b=> ?_;exact K D Z F4 w (C.trans E) (u.trans g) b
end
section
variable {n:Nat}{ad:Option Addr}{ns:Nat->Nat}{sec:Nat->Nat->dM}{Gn:Nat->C2}{X:Nat->C2}{c:Frame}
def Zm (b:Nat->Nat)(c:Nat->C2)(a:Nat->Nat->dM)(X:Nat->C2)(n k:Nat):C2:=nU (λj=>Cz b c a X j k) n
theorem HX (d2:fT d)(hF:mq v k n B E u ns O f)(hl:bj v (.slice ad m N) m X)(hm:m<=1 + 262144 / (1 + n))(d3:m<=N)(d4:0<n)(hn:n<=1000)(h1:1<=W)(h2:W<=64)
  (hK: ∀S' a2 v' F' w' b z,S'.lq e->Ext d a2->At (E0 S') a2 v' F' bO w'->aA v v'->dy v' b m (Zm ns f O X n)->VR a2 (H6 (some ⟨b,0,none⟩) m m) z->cO a S' F' (G (c.finish (.tuple #[z,I2 I3 0])) l) w')
  (o:At (E0 e) d v F bO w)(hv:aB d #[H6 (some ⟨k,0,none⟩) n j,.slice ad m N,I2 I3 W] y):
  cO a e F (G (ak 17 (y ++ B0 74 U) [.code ME]) (c::l)) w:=by
 have hC:1 + 262144 / (1 + n)<=1000000:=by have:=Nat.div_le_self 262144 (1 + n);omega
 refine DK (Z:=Zm ns f O X n) hF YP hn h1 h2 ?_ o hv;intro f8 v1 F1 w1 x1 y1 A bW b8 g bM Rl bA Rw bR g4 L a3 o H z0 s1 s5 s8 I a4 a5 d5;obtain ⟨o1,o2,o3,o4,o5,o6,o7,o8,o9⟩:=H.ord;have f9:bR<v1.heap.size:=cy H.rw;refine DL hn R o H z0 s1 s5 s8 I a4 a5 d5 ?_;intro q g0 v2 F2 w2 x2 y2 f6 bl bc a6 a7 p o a8 b6 d6 d7 z0 s5 s8 I a4 a5 a9 J;obtain ⟨bk,K⟩: ∃bk:Nat->Option Obj,bk=λb=>if b=q then some (.deferred (some []))else if b=q + 1 then some (.loop (Iz 17 y2 #[44] lF jZ q))else none:=⟨_,R⟩
 rw[<-K]at o;have hX:bk q=some (.deferred (some [])):=by rw[K];simp
 have hY:bk (q + 1)=some (.loop (Iz 17 y2 #[44] lF jZ q)):=by rw[K];simp
 have a1: ∀b M,bk b=some M->uq M:=λb M h=>by
  rw[K]at h;dsimp only at h;split at h
  ·cases h;trivial
  ·split at h
   ·cases h;trivial
   ·cases h
 clear K;have d8:=H.keep p;rcases Nat.eq_zero_or_pos m with rfl | b7
 ·refine xI o a8.cell J ?_;intro d9 v3 F3 w3 C P o;refine uY (g:=g) (m:=0) (bM:=bM) (Z:=Zm ns f O X n) o z0 I (d8.mo.low (by rw[P]) (by rw[P])) (aB.mono C a9) hX a6 hY R R a1 ?_;intro b9 v4 F4 w4 z D c3 o hz;exact hK e b9 v4 F4 w4 g z ⟨R,R⟩ (((a3.trans a7).trans C).trans D) o (((H.low.trans p).av.trans (aA.heap P)).trans (aA.heap c3)) (λg5 hj=>absurd hj (Nat.not_lt_zero _)) hz
 ·obtain ⟨b,a0,rfl,g1⟩: ∃b a0,ad=some ⟨b,a0,none⟩/\b<v.heap.size:=by obtain ⟨e0,c',c5,h⟩:=hl;grind
  refine xJ (Y:=q + 1) o a8.cell b6.cell b7 hm d3 hC J hY R ?_;intro d9 F3 w3 xc yc u' C o zc c1 c2 c4 e1 e2;have e3:=aB.set (i:=44) (aB.mono C a9) e2;refine xN (x:=x2.setIfInBounds 44 (H6 (some ⟨b,a0,none⟩) m m)) o YS (ab s5 YQ) (ab s8 YQ) (ab I YQ) (ab a4 YQ) (ab a5 YQ) (aE z0 YQ) e3 hY (Nat.le_succ_of_le a6) R a1 ?_;intro b9 v4 F4 w4 x4 y4 D r o e4 z4 t5 t8 e5 e6 e7 e8 e9;obtain ⟨bk1,s⟩: ∃bk1:Nat->Option Obj,bk1=λb=>if b=q + 1 then some (.loop {Iz 17 y2 #[44] lF jZ q with state:= .busy})else bk b:=⟨_,R⟩
  rw[<-s]at o;have f0:bk1 q=some (.deferred (some [])):=by rw[s];simp[hX]
  have c6:bk1 (q + 1)=some (.loop {Iz 17 y2 #[44] lF jZ q with state:= .busy}):=by rw[s];simp
  have Q: ∀b M,bk1 b=some M->uq M:=λb M h=>by
   rw[s]at h;dsimp only at h;split at h
   ·cases h;trivial
   grind
  clear s;generalize ({Iz 17 y2 #[44] lF jZ q with state:= .busy}:Loop)=r1 at c6;have f1:bj v4 (H6 (some ⟨b,a0,none⟩) m m) m X:=by obtain ⟨e0,c',c5,h⟩:=hl.av ((H.low.trans p).trans r).av;cases c5;exact ⟨_,m,R,h⟩
  refine xO (Y:=q + 1) (Z:=Zm ns f O X n) o Q (d2.ext (((a3.trans a7).trans C).trans D)) (H.keep (p.trans r)) e4.cell (by have:=p.1;omega) f1 (λb' f7 c5=>YS) b7 YP d4 hn h1 h2 hF.few (λ_ _=>rfl) z4 t5 t8 e5 e6 e7 e8 e9 ?_;intro S5 g2 v5 F5 w5 y5 b0 b1 o b2 c7;refine cO.put (o':= .loop {r1 with state:= .ready,pending:=none}) o c6 (by rw[b0.1];omega) trivial trivial Q R ⟨R,R⟩ (λw1 h1=>wu h1) (λc5 he=>by simpa using eP _ _ c5 he) λF6 w6 o=> ?_;obtain ⟨bk2,t⟩: ∃bk2:Nat->Option Obj,bk2=λb=>if b=q + 1 then some (.loop {r1 with state:= .ready,pending:=none})else bk1 b:=⟨_,R⟩
  rw[<-t]at o;have f2:bk2 q=some (.deferred (some [])):=by rw[t];simp[f0]
  have f3:bk2 (q + 1)=some (.loop {r1 with state:= .ready,pending:=none}):=by rw[t];simp
  have b3: ∀b M,bk2 b=some M->uq M:=λb M h=>by
   rw[t]at h;dsimp only at h;split at h
   ·cases h;trivial
   grind
  clear t;have c9: ∀i,i<n->A<L i/\L i<b8:=λi hi=>⟨(H.new i hi).2,(H.top i hi).2⟩;have T: ∀b4 b5,v1.heap.size<=b4.block->v2.cell? b4=some b5->v5.cell? b4=some b5:=λb4 b5 ha hu=>b2.2 b4 b5 YP (λi hi=>by have:=c9 i hi;omega) YP (r.cell hu);refine xK o (T _ _ d6 a8.cell) (T _ _ d7 b6.cell) hm hC zc c1 c2 c4 (aB.mono (D.trans b1) e1) ?_;intro g3 v7 F7 w7 d0 V o;refine uY (g:=g) (m:=m) (bM:=bM) (Z:=Zm ns f O X n) o z0 I (c7.low (by rw[V]) (by rw[V])) (aB.mono (((C.trans D).trans b1).trans d0) a9) f2 (by rw[b0.1];exact a6) f3 R R b3 ?_;intro f4 v8 F8 w8 z f5 d1 o hz;have hg:=(aA.heap V).trans (aA.heap d1);refine hK S5 f4 v8 F8 w8 g z b0 ((((((a3.trans a7).trans C).trans D).trans b1).trans d0).trans f5) o ⟨Nat.le_trans H.low.1 (Nat.le_trans p.1 (Nat.le_trans r.1 (Nat.le_trans b2.1 hg.1))),λb4 b5 hu=> ?_⟩ (c7.o.IP.1.av hg) hz;have ha:=cy hu;exact hg.2 _ _ (b2.2 b4 b5 YP (λi hi=>by have:=c9 i hi;omega) YP (((H.low.trans p).trans r).cell hu))
end
def dq (u:Nat->q6):Array q6:=((A3 316).map u).toArray
def up (u:Nat->q6):List (Nat×q6)->Nat->q6
 | [],k=>u k
 | p::l,k=>if k=p.1 then p.2 else up u l k
theorem fh (u:Nat->q6):(dq u).size=316:=by simp[dq]
theorem dE (u:Nat->q6)(a:k<316):(dq u)[k]? =S (u k):=by simp[dq,a]
theorem nF(h:y.size=316): ∃u,y=dq u/\ ∀ (i:Nat) v,y[i]? =S v->u i=v:=by obtain ⟨u,a,b⟩:=pT h;exact ⟨u,a,b⟩
theorem oK (u:Nat->q6)(k:Nat)(v:q6):(dq u).setIfInBounds k v=dq (up u [(k,v)]):=by
 apply C0;intro i;rw[C8];by_cases a:i<316
 ·rw[dE u a,dE _ a,fh];by_cases b:k=i
  ·subst b;simp[up,a]
  ·have: ¬i=k:=by omega
   simp[up,b,this]
 ·rw[r6 (xs:=dq u) (by rw[fh];omega),r6 (xs:=dq _) (by rw[fh];omega)];split
  ·rw[fh,if_neg YP]
  ·rfl
theorem bf (u:Nat->q6):dq u= #[u 0,u 1,u 2,u 3,u 4,u 5,u 6,u 7,u 8,u 9,u 10,u 11,u 12,u 13,u 14,u 15,u 16,u 17,u 18,u 19,u 20,u 21,u 22,u 23,u 24,u 25,u 26,u 27,u 28,u 29,u 30,u 31,u 32,u 33,u 34,u 35,u 36,u 37,u 38,u 39,u 40,u 41,u 42,u 43,u 44,u 45,u 46,u 47,u 48,u 49,u 50,u 51,u 52,u 53,u 54,u 55,u 56,u 57,u 58,u 59,u 60,u 61,u 62,u 63,u 64,u 65,u 66,u 67,u 68,u 69,u 70,u 71,u 72,u 73,u 74,u 75,u 76,u 77,u 78,u 79,u 80,u 81,u 82,u 83,u 84,u 85,u 86,u 87,u 88,u 89,u 90,u 91,u 92,u 93,u 94,u 95,u 96,u 97,u 98,u 99,u 100,u 101,u 102,u 103,u 104,u 105,u 106,u 107,u 108,u 109,u 110,u 111,u 112,u 113,u 114,u 115,u 116,u 117,u 118,u 119,u 120,u 121,u 122,u 123,u 124,u 125,u 126,u 127,u 128,u 129,u 130,u 131,u 132,u 133,u 134,u 135,u 136,u 137,u 138,u 139,u 140,u 141,u 142,u 143,u 144,u 145,u 146,u 147,u 148,u 149,u 150,u 151,u 152,u 153,u 154,u 155,u 156,u 157,u 158,u 159,u 160,u 161,u 162,u 163,u 164,u 165,u 166,u 167,u 168,u 169,u 170,u 171,u 172,u 173,u 174,u 175,u 176,u 177,u 178,u 179,u 180,u 181,u 182,u 183,u 184,u 185,u 186,u 187,u 188,u 189,u 190,u 191,u 192,u 193,u 194,u 195,u 196,u 197,u 198,u 199,u 200,u 201,u 202,u 203,u 204,u 205,u 206,u 207,u 208,u 209,u 210,u 211,u 212,u 213,u 214,u 215,u 216,u 217,u 218,u 219,u 220,u 221,u 222,u 223,u 224,u 225,u 226,u 227,u 228,u 229,u 230,u 231,u 232,u 233,u 234,u 235,u 236,u 237,u 238,u 239,u 240,u 241,u 242,u 243,u 244,u 245,u 246,u 247,u 248,u 249,u 250,u 251,u 252,u 253,u 254,u 255,u 256,u 257,u 258,u 259,u 260,u 261,u 262,u 263,u 264,u 265,u 266,u 267,u 268,u 269,u 270,u 271,u 272,u 273,u 274,u 275,u 276,u 277,u 278,u 279,u 280,u 281,u 282,u 283,u 284,u 285,u 286,u 287,u 288,u 289,u 290,u 291,u 292,u 293,u 294,u 295,u 296,u 297,u 298,u 299,u 300,u 301,u 302,u 303,u 304,u 305,u 306,u 307,u 308,u 309,u 310,u 311,u 312,u 313,u 314,u 315]:=YV
theorem aB.fr(h:aB d (dq u) y)(t:Nat)(a:t<316){v:q6}(e:u t=v):VR d v (s6 ⟨y,[]⟩ (.tmp t)):=by subst e;exact h.ev (dE u a)
noncomputable def T8:r3:=match T7 with | .seq _ c=>c | _=> .skip
noncomputable def O8:Array E3:=match T7 with | .seq (.region _ o _) _=>o | _=> #[]
def cut (a:Array E3)(i n:Nat):Array E3:=((a.toList.drop i).take n).toArray
theorem Hk(a:k<n):(cut h i n)[k]? =h[i + k]? :=by simp[cut,a]
theorem Ac {P:Program}{c:Nat->Bool}{a b:Array E3}{i:Nat}: ∀ (q j:Nat),(∀k,j<=k->k<j + q-> ∃o,a[k]? =S o/\b[i + k]? =S o/\jM P c o.op=true/\o.guard=none)->gV P c a b (r7 j q) (r7 (i + j) q)
 | 0,_,_=> .nil
 | q + 1,j,h=> .cons (h j (Nat.le_refl _) YP) (Ac q (j + 1) λk d e=>h k YP YP)
theorem Fl{b:Nat->Bool}(i n:Nat)(d:(cut h i n).size=n)(e:((cut h i n).all λo=>jM P b o.op && o.guard.isNone)=true):gV P b (cut h i n) h (A3 (cut h i n).size) (r7 i n):=by rw[d,List.range_eq_range'];refine Ac n 0 λk _ f=> ?_;have a:k<(cut h i n).size:=YP;have c:=p8 a;refine ⟨_,c,by rw[<-Hk (n:=n) YP];exact c,?_⟩;rw[Array.all_eq_true]at e;simp_all
section
variable {ρ:aU}{x:Array Value}{k:List Item}
theorem uV{c:List Nat}{Q:Array q6->World->Prop}(i n:Nat)(z:(cut h i n).size=n)(q:((cut h i n).all λo=>jM Try.prog okF o.op && o.guard.isNone)=true)(A:ct Try.prog okF (.region 0 (cut h i n) false)=true)(B: ∀x v g d,Q x v->Q x (aK v g d))(r: ∀x v g d,Q x (aK v g d)->Q x v)(s:At (E0 e) ρ v F bO w)(C:aB ρ x y)
  (D: ∀g,(C1 0 (cut h i n) false).wp Try.prog (λE u f=>E= .normal/\u.defers= []/\Q u.tmps f) ⟨x,[]⟩ (aK v g 0))
  (K: ∀b j k m f p,Ext ρ b->Q j m->At (E0 e) b m p bO f->aB b j k->cO a e p (G (ak 3 k (.inRegion h c::t)) l) f):
  cO a e F (G (ak 3 y (.inRegion h (r7 i n ++ c)::t)) l) w:=
 aa.ops (L:=r7 i n) (ey:=cut h i n) bh ⟨_,Try.func3⟩ Zz 0 (Fl i n z q) A B r s C D λb j k m f p H _ I J M=>K b j k m f p H I J M
theorem dY {c:r3}{Q:Array q6->World->Prop}(q:ct Try.prog okF c=true)(r: ∀x v g m,Q x v->Q x (aK v g m))(n: ∀x v g m,Q x (aK v g m)->Q x v)(o:At (E0 e) d v F bO w)(s:aB d x y)(t: ∀g,c.wp Try.prog (λu p f=>u= .normal/\p.defers= []/\Q p.tmps f) ⟨x,[]⟩ (aK v g 0))
  (K: ∀b h i v' f j,Ext d b->Q h v'->At (E0 e) b v' j bO f->aB b h i->cO a e j (G (ak 3 i k) l) f):
  cO a e F (G (ak 3 y (.code c::k)) l) w:=
 aa.ej bh ⟨_,Try.func3⟩ Zz q r n o s t λb h i v' f j z _ A B C=>K b h i v' f j z A B C
end
def path (a:Array E3):List Nat->Bool
 | i::j::l=>(((a[i]?).map λo=>o.after.any λe=>e.on==j && D4 .any e).getD false) && path a (j::l)
 | _=>true
theorem ez.no {c:Array E3}{q:H8}{V:Nat->q6->Prop}{C:Array Bool->H8->World->Prop}{b:Array Bool}{a:H8}{w:World}(f:ez c q V C b a w): ∀ (l:List Nat)(i j:Nat),path c (j::(l ++ [i]))=true->b.getD i false=false->b.getD j false=false
 | [],i,j,h,p=>by
  simp only[List.nil_append,path,Bool.and_true]at h;cases g:b.getD j false with
  | false=>rfl
  | true=>
   cases d:c[j]? with
   | none=>grind
   | some o=>rw[d]at h;simp only[B1,C4,E4,D2,beq_iff_eq]at h;obtain ⟨e,m,r,n⟩:=h;have:=f.closed j o d g e m n;grind
 | k::l,i,j,h,p=>by
  simp only[List.cons_append,path,D2]at h;have s:=f.no l i k h.2 p;cases g:b.getD j false with
  | false=>rfl
  | true=>
   cases d:c[j]? with
   | none=>grind
   | some o=>rw[d]at h;simp only[B1,C4,E4,D2,beq_iff_eq]at h;obtain ⟨e,m,r,n⟩:=h.1;have:=f.closed j o d g e m n;grind
theorem gw {f:FuncId}{h:Array z9}{us:Array q6}{d:Array E5}(g:o.op= .call {callee:= .value (.func f),args:=h,argTypes:=d})(i:h.map A.eval=us){b:Func}{c:r3}(j:Try.prog.funcs[f]? =S b)(a:(b.name== "runtime.NumGoroutine")=false)(k:b.body=S c)(l:E6 Try.prog f us w λe m=> ∃v,e= .returned v/\D v m):bD Try.prog o A w D:=by
 have n: ¬b.name= "runtime.NumGoroutine" :=by simpa using a
 have p: ¬b.body=none:=by rw[k];simp
 refine .inr (.inr ⟨f,us,?_,l⟩);unfold r4;simp only[g,G9,i];simp[s6,Deferred.ofValue,invoke,callFunc,j,n,p]
theorem My {y z:z9}{d:Option E7}(a:o.op= .build 35 #[(0,x),(1,y),(2,z)])(e:b x= .agg #[I0 I1 N i,.slice c k n])(f:b y= .agg #[.bool true,.bool false,.bool true])(g:b z= .slice d m j):(r4 b o).run Try.prog w= .ok (.value (.agg #[I0 I1 N i,.slice c k n,.bool true,.bool false,.bool true,.slice d m j])) w:=by unfold r4;simp only[a,p9,q7,q8,e,f,g];go_simp
theorem Mz {z:z9}{d:Option E7}(a:o.op= .build 35 #[(0,x),(2,z)])(e:b x= .agg #[I0 I1 N i,.slice c k n])(f:b z= .slice d m j):(r4 b o).run Try.prog w= .ok (.value (.agg #[I0 I1 N i,.slice c k n,.bool false,.bool false,.bool false,.slice d m j])) w:=by unfold r4;simp only[a,p9,q7,q8,e,f];go_simp
theorem MA(a:o.op= .build 35 #[(0,x)])(c:b x= .agg #[I0 I1 k i,.slice none 0 0]):(r4 b o).run Try.prog w= .ok (.value (.agg #[I0 I1 k i,.slice none 0 0,.bool false,.bool false,.bool false,.slice none 0 0])) w:=by unfold r4;simp only[a,p9,q7,q8,c];go_simp
theorem Jl(a:o.op= .build 29 #[(0,x)])(c:b x= I0 I1 k i):(r4 b o).run Try.prog w= .ok (.value (.agg #[I0 I1 k i,.slice none 0 0])) w:=by unfold r4;simp only[a,p9,q7,q8,c];go_simp
theorem Mw {y:z9}{a:Array E5}(c:o.op= .call {callee:= .builtin .complex,args:= #[x,y],argTypes:=a})(d:b x= .float .f64 k)(e:b y= .float .f64 i):(r4 b o).run Try.prog w= .ok (.value (I0 I1 k i)) w:=by unfold r4;simp only[c,p9,q7,q8,d,e,G9];go_simp
theorem MB {y c:z9}{d e f g h i j k l m n p r s t:q6}(a:o.op= .buildSlice 38 3 #[(0,x),(1,y),(2,c)])(u:b x= .agg #[z,q,V,d,e,f])(v:b y= .agg #[g,h,i,j,k,l])(A:b c= .agg #[m,n,p,r,s,t]):(r4 b o).run Try.prog w= .ok (.value (H6 (S ⟨w.heap.size,0,none⟩) 3 3)) (w.alloc (.cells #[z,q,V,d,e,f,g,h,i,j,k,l,m,n,p,r,s,t] 35)):=by unfold r4;simp only[a,p9,q7,q8,u,v,A];go_simp
def v8 (b:Nat)(a d e:Option E7)(m c f g h i:Nat):Nat->q6->Prop
 | 58,v=>v= .agg #[I0 I1 4604930618986332160 4602678819172646912,.slice d f g]
 | 59,v=>v= .agg #[.bool true,.bool false,.bool true]
 | 60,v=>v= .slice a m c
 | 61,v=>v= .agg #[I0 I1 4604930618986332160 4602678819172646912,.slice d f g,.bool true,.bool false,.bool true,.slice a m c]
 | 62,v=>v= .agg #[I0 I1 4604930618986332160 4602678819172646912,.slice e h i]
 | 63,v=>v= .slice a m c
 | 64,v=>v= .agg #[I0 I1 4604930618986332160 4602678819172646912,.slice e h i,.bool false,.bool false,.bool false,.slice a m c]
 | 65,v=>v= .float .f64 9218868437227405312
 | 66,v=>v= I0 I1 9218868437227405312 0
 | 67,v=>v= .agg #[I0 I1 9218868437227405312 0,.slice none 0 0]
 | 68,v=>v= .agg #[I0 I1 9218868437227405312 0,.slice none 0 0,.bool false,.bool false,.bool false,.slice none 0 0]
 | 69,v=>v= H6 (S ⟨b,0,none⟩) 3 3
 | 16,v=>v= H6 (S ⟨b,0,none⟩) 3 3
 | _,_=>True
def c8 (b:Array q6)(v:World)(a:Array Bool)(_:H8)(w:World):Prop:=(a.getD 11 false=false->w.heap=v.heap)/\(a.getD 11 false=true->w.heap=v.heap.push (.cells b 35))
theorem c8.same{a:H8}{w':World}(h:c8 y v s a w)(i:Nat)(b:i≠11)(c:w'.heap=w.heap):c8 y v (s.setIfInBounds i true) A w':=by unfold c8;rw[r9 false b,c];exact h
theorem xV:(Try.prog.info? 33).map (·.size)=S 3:=Zx
theorem QQ {z A:Option E7}(t:y.size=316)(B:y[11]? =S (.slice c m k))(H:y[12]? =S (ptr W))(I:y[13]? =S (ptr M))(J:y[15]? =S (ptr Y))(K:je v W (.slice z n j))(O:je v M (.slice A N L))(P:v.rangeAt Y 0 [.bool true,.bool false,.bool true]):
  (C1 8 O8 true).wp Try.prog (λe a Z=>e= .normal/\a.defers= []/\(a.tmps.size=316/\a.tmps[16]? =S (H6 (S ⟨v.heap.size,0,none⟩) 3 3)/\(∀d:Nat,d≠16->d<58\/69<d->a.tmps[d]? =y[d]?)/\Z.heap=v.heap.push (.cells #[I0 I1 4604930618986332160 4602678819172646912,.slice z n j,.bool true,.bool false,.bool true,.slice c m k,I0 I1 4604930618986332160 4602678819172646912,.slice A N L,.bool false,.bool false,.bool false,.slice c m k,I0 I1 9218868437227405312 0,.slice none 0 0,.bool false,.bool false,.bool false,.slice none 0 0] 35))) ⟨y,[]⟩ v:=by
 have V:O8=O8:=rfl;conv at V=>rhs;unfold O8 T7 T6 T5 T3;simp only[Try.f3]
 rw[V];refine cv (v8 v.heap.size c z A m k n j N L) (c8 #[I0 I1 4604930618986332160 4602678819172646912,.slice z n j,.bool true,.bool false,.bool true,.slice c m k,I0 I1 4604930618986332160 4602678819172646912,.slice A N L,.bool false,.bool false,.bool false,.slice c m k,I0 I1 9218868437227405312 0,.slice none 0 0,.bool false,.bool false,.bool false,.slice none 0 0] v) Zx Zx Zx 316 Zx t ⟨λ_=>rfl,λh=>by simp at h⟩ ?_ ?_
 ·intro listed Q x d o f X C T g;have a0:d<13:=by simpa using (q9.1 X).1
  have b:=f.world;have G:=cz T C YP;rcases (by omega:d=0\/d=1\/d=2\/d=3\/d=4\/d=5\/d=6\/d=7\/d=8\/d=9\/d=10\/d=11\/d=12)with rfl | rfl | rfl | rfl | rfl | rfl | rfl | rfl | rfl | rfl | rfl | rfl | rfl
  all_goals obtain rfl:=B5 X
  ·have q:=b.1 (f.no [3] 0 11 Zx G);exact bZ R ((f.base 12 Zx).trans (ay H)) (D9 x W 0 29 [I0 I1 4604930618986332160 4602678819172646912,.slice z n j] _ (λD u E=>(aA.heap q).2 _ _ (K D u E)) Try.underlying29 R nH) ⟨aj R R,b.same 0 YQ R⟩
  ·have q:=b.1 (f.no [3] 1 11 Zx G);exact bZ R ((f.base 15 Zx).trans (ay J)) (D9 x Y 0 33 [.bool true,.bool false,.bool true] _ (λD u E=>(aA.heap q).2 _ _ (P D u E)) Try.underlying33 R xV) ⟨aj R R,b.same 1 YQ R⟩
  ·exact aJ R ((f.base 11 Zx).trans (ay B)) ⟨aj R R,b.same 2 YQ R⟩
  ·have l:=(f.slot 0 _ 58 R R (g ⟨0,.data⟩ YR R));have w:=(f.slot 1 _ 59 R R (g ⟨1,.data⟩ YR R));have F:=(f.slot 2 _ 60 R R (g ⟨2,.data⟩ YR R));exact aL (My R l w F) ⟨aj R R,b.same 3 YQ R⟩
  ·have q:=b.1 (f.no [6] 4 11 Zx G);exact bZ R ((f.base 13 Zx).trans (ay I)) (D9 x M 0 29 [I0 I1 4604930618986332160 4602678819172646912,.slice A N L] _ (λD u E=>(aA.heap q).2 _ _ (O D u E)) Try.underlying29 R nH) ⟨aj R R,b.same 4 YQ R⟩
  ·exact aJ R ((f.base 11 Zx).trans (ay B)) ⟨aj R R,b.same 5 YQ R⟩
  ·have l:=(f.slot 4 _ 62 R R (g ⟨4,.data⟩ YR R));have w:=(f.slot 5 _ 63 R R (g ⟨5,.data⟩ YR R));exact aL (Mz R l w) ⟨aj R R,b.same 6 YQ R⟩
  ·refine gw (us:= #[I2 I3 1]) R (by simp[s6]) Try.func6 Zx YV ((Il x).mono ?_);rintro e w3 ⟨rfl,rfl⟩;exact ⟨_,R,aj R R,b.same 7 YQ R⟩
  ·have l:=(f.slot 7 _ 65 R R (g ⟨7,.data⟩ YR R));exact aL (Mw (i:=0) R l R) ⟨aj R R,b.same 8 YQ R⟩
  ·have l:=(f.slot 8 _ 66 R R (g ⟨8,.data⟩ YR R));exact aL (Jl R l) ⟨aj R R,b.same 9 YQ R⟩
  ·have l:=(f.slot 9 _ 67 R R (g ⟨9,.data⟩ YR R));exact aL (MA R l) ⟨aj R R,b.same 10 YQ R⟩
  ·have l:=(f.slot 3 _ 61 R R (g ⟨3,.data⟩ YR R));have w:=(f.slot 6 _ 64 R R (g ⟨6,.data⟩ YR R));have F:=(f.slot 10 _ 68 R R (g ⟨10,.data⟩ YR R));have q:=b.1 G;exact aL (MB R l w F) ⟨aj R (by show _=_;rw[q]),λh=>(by simp_all),λ_=>(by show x.heap.push _=_;rw[q])⟩
  ·have l:=(f.slot 11 _ 69 R R (g ⟨11,.data⟩ YR R));exact jj R l ⟨aj R R,b.same 12 YQ R⟩
 ·intro listed Q x f r;have b:=f.world;have h5:=f.slot 12 _ 16 R R (r 12 YQ);have s:=f.size.trans t;refine ⟨R,f.defers,s,?_,?_,b.2 (r 11 YQ)⟩
  ·have e:Q.tmps.getD 16 U= H6 (S ⟨v.heap.size,0,none⟩) 3 3:=h5;simp_all
  ·have g:=f.defers;obtain ⟨tm,df⟩:=Q;dsimp only at g;subst g;exact λd w F=>eH (p:=λd=>d≠16/\(d<58\/69<d)) t s (λd hk=>f.base d YT) d ⟨w,F⟩
structure P3 where
 b3:Nat
 a4:Option E7
 n4:Nat
 c4:Nat
 ad:Option E7
 m:Nat
 c:Nat
 f0:Nat
 f1:Nat
 fb:Nat
 gb:Nat
 p0:Option E7
 k0:Nat
 q0:Nat
 p1:Option E7
 k1:Nat
 q1:Nat
 tZ:List q6
 AU:List q6
 X:Nat->C2
 NZ:Nat->Nat
structure M3 (u:Nat->q6)(p:P3):Prop where
 s3:u 3= .int .u8 p.b3
 s4:u 4= .slice p.a4 p.n4 p.c4
 eX:u 11= .slice p.ad p.m p.c
 fQ:u 12=ptr p.f0
 fS:u 13=ptr p.f1
 gN:u 14= H6 (S ⟨p.fb,0,none⟩) 3 3
 fR:u 15=ptr p.gb
structure W3 (v:World)(p:P3):Prop where
 list:bj v (.slice p.ad p.m p.c) p.m p.X
 f0:je v p.f0 (.slice p.p0 p.k0 p.q0)
 f1:je v p.f1 (.slice p.p1 p.k1 p.q1)
 gb:v.rangeAt p.gb 0 [.bool true,.bool false,.bool true]
 fs:v.rangeAt p.fb 0 [I0 I1 4604930618986332160 4602678819172646912,.slice p.p0 p.k0 p.q0,I0 I1 4604930618986332160 4602678819172646912,.slice p.p1 p.k1 p.q1,I0 I1 0 4607182418800017408,.slice none 0 0]
 s0:bn v (.slice p.p0 p.k0 p.q0) p.k0 (cb p.tZ)
 s1:bn v (.slice p.p1 p.k1 p.q1) p.k1 (cb p.AU)
 l0:p.k0<=4
 l1:p.k1<=4
 pX:p.m<=100
 mc:p.m<=p.c
 RQ:eb v p.a4 p.n4 p.NZ
 Kl:p.b3<256
theorem W3.av {v b:World}{p:P3}(h:W3 v p)(k:aA v b):W3 b p:=⟨h.list.av k,λj u a=>k.2 _ _ (h.f0 j u a),λj u a=>k.2 _ _ (h.f1 j u a),λj u a=>k.2 _ _ (h.gb j u a),λj u a=>k.2 _ _ (h.fs j u a),h.s0.av k,h.s1.av k,h.l0,h.l1,h.pX,h.mc,h.RQ.av k,h.Kl⟩
def gA:Gu:=⟨true,false,true⟩
def MU (p:P3):Nat->JS
 | 0=>S ⟨p.m,p.k0,gT gA gG p.k0 (cb p.tZ) aI p.X,jr gA gG p.k0 (cb p.tZ) aI p.X p.m,gM gA gG p.k0 (cb p.tZ) aI p.X p.m⟩
 | 1=>S ⟨p.m,p.k1,gT jA gG p.k1 (cb p.AU) aI p.X,jr jA gG p.k1 (cb p.AU) aI p.X p.m,gM jA gG p.k1 (cb p.AU) aI p.X p.m⟩
 | _=>none
def BC (p:P3):Nat->List q6
 | 0=> [I0 I1 4604930618986332160 4602678819172646912,.slice p.p0 p.k0 p.q0,.bool true,.bool false,.bool true,.slice p.ad p.m p.c]
 | 1=> [I0 I1 4604930618986332160 4602678819172646912,.slice p.p1 p.k1 p.q1,.bool false,.bool false,.bool false,.slice p.ad p.m p.c]
 | _=> [I0 I1 9218868437227405312 0,.slice none 0 0,.bool false,.bool false,.bool false,.slice none 0 0]
theorem Ik:pf (I0 I1 9218868437227405312 0):=⟨_,_,R,YQ,YQ,YQ⟩
noncomputable def T9:r3:=match T8 with | .seq _ c=>c | _=> .skip
noncomputable def O9:Array E3:=match T8 with | .seq (.region _ o _) _=>o | _=> #[]
theorem NX:Try.f7.body=S B7:=Zx
theorem tO{a:q6}(b:VR d z q)(c:VR d V a):VR d (.tuple #[z,V]) (.tuple #[q,a]):= .tuple R λi x y e f=>by grind
theorem pS {b:Type}{l:List b}{a:b}(h:l[i]? =S a):i<l.length:=YS
def W8 (p:P3):Nat:=1 + p.b3 % 8
section
variable {ρ:aU}
variable {p:P3}
theorem KY (b:At (E0 e) d v F bO w)(K:aB d (dq u) y)(c:M3 u p)(n:W3 v p)
  (L: ∀f i D E H o I,Ext d f->At (E0 e) f i D bO E->aA v i->i.rangeAt I 0 (BC p 0 ++ BC p 1 ++ BC p 2)->M3 o p->o 16= H6 (S ⟨I,0,none⟩) 3 3->aB f (dq o) H->cO a e D (G (ak 3 H [.code T8]) l) E):
  cO a e F (G (ak 3 y [.code T7]) l) w:=by
 have M:T7= .seq (.region 8 O8 true) T8:=by unfold O8 T8 T7 T6 T5 T3;simp only[Try.f3]
 rw[M];refine aa.ah b λw b=> ?_;refine aa.ej (Q:=λq i=>q.size=316/\q[16]? =S (H6 (S ⟨v.heap.size,0,none⟩) 3 3)/\(∀k:Nat,k≠16->k<58\/69<k->q[k]? =(dq u)[k]?)/\i.heap=v.heap.push (.cells (BC p 0 ++ BC p 1 ++ BC p 2).toArray 35)) bh ⟨_,Try.func3⟩ Zz Zx YU YU b K (λN=> ?_) ?_
 ·exact QQ (v:=aK v N 0) (fh u) ((dE u YQ).trans (congrArg S c.eX)) ((dE u YQ).trans (congrArg S c.fQ)) ((dE u YQ).trans (congrArg S c.fS)) ((dE u YQ).trans (congrArg S c.fR)) n.f0 n.f1 n.gb
 rintro r Y O P T V s W ⟨t,x,A,B⟩ b C;obtain ⟨J,rfl,m⟩:=nF t;have g: ∀k:Nat,k<16-> ∀ {z},u k=z->J k=z:=λk Z {z} X=>m k z ((A k YP YP).trans ((dE u YP).trans (congrArg S X)));refine L r P V T O J v.heap.size s b (ar.push B).av (λj z hz=> ?_) ⟨g 3 YQ c.s3,g 4 YQ c.s4,g 11 YQ c.eX,g 12 YQ c.fQ,g 13 YQ c.fS,g 14 YQ c.gN,g 15 YQ c.fR⟩ (m 16 _ x) C;unfold u0;grind
theorem KZ(E:fT ρ)(b:At (E0 e) ρ v F bO w)(hv:aB ρ (dq u) y)(s:M3 u p)(C:W3 v p)(o:v.rangeAt i 0 (BC p 0 ++ BC p 1 ++ BC p 2))(a0:u 16= H6 (some ⟨i,0,none⟩) 3 3)
  (hK: ∀J H t F' w' y' X Rl (Y:Nat->List Value),J.lq e->Ext ρ H->At (E0 J) H t F' bO w'->aA v t->(∀f,f<3->pn (MU p) f (Y f) t/\ ∀k,k<4->t.cell? ⟨Rl,4 * f + k,none⟩=(Y f)[k]?)->M3 X p->X 17= H6 (some ⟨Rl,0,none⟩) 3 3->X 18= .int .i64 0->aB H (dq X) y'->cO a J F' (G (ak 3 y' [.code T9]) l) w'):
  cO a e F (G (ak 3 y [.code T8]) l) w:=by
 have e8:T8= .seq (.region 9 O9 false) T9:=by unfold O9 T9 T8 T7 T6 T5 T3;simp only[Try.f3]
 have Z:cut O9 0 5=cut O9 0 5:=rfl;conv at Z=>rhs;unfold cut O9 T8 T7 T6 T5 T3;simp only[Try.f3,List.drop_zero,List.take_succ_cons,List.take_zero]
 have x:cut O9 6 5=cut O9 6 5:=rfl;conv at x=>rhs;unfold cut O9 T8 T7 T6 T5 T3;simp only[Try.f3,List.drop_succ_cons,List.drop_zero,List.take_succ_cons,List.take_zero]
 rw[e8];refine aa.ah b λw b=> ?_;refine aa.aC b λw b=> ?_;rw[show List.range O9.size=List.range' 0 5 ++ (5::(List.range' 6 5 ++ [])) by kernel_rfl];have a7:((p.b3:Int)).tmod 8=((p.b3 % 8:Nat):Int):=by rw[Int.tmod_eq_emod_of_nonneg YP];omega
 have a8:IntKind.i64.wrap ((p.b3:Int))=(p.b3:Int):=by rw[C5];have:=C.Kl;omega
 have a9:IntKind.i64.wrap (1 + ((p.b3 % 8:Nat):Int))=((W8 p:Nat):Int):=by rw[C5];unfold W8;omega
 refine uV (Q:=λx' t=>x'=dq (up u [(71,H6 (some ⟨i,0,none⟩) 3 3),(72,.int .u8 p.b3),(73,.int .i64 p.b3),(74,.int .i64 ((p.b3 % 8:Nat):Int)),(75,.int .i64 (W8 p)),(16,H6 (some ⟨i,0,none⟩) 3 3),(3,.int .u8 p.b3)])/\t.heap=v.heap) 0 5 Zx Zx Zx YU YU b hv (λtp=> ?_) ?_
 ·rw[Z,bf u,a0,s.s3];clear b hv s C o hK E e8 Z x;go_wp2
  exact ⟨Zx,R⟩
 rintro a1 x1 y1 v1 w1 F1 K ⟨rfl,D⟩ b A;have m:=aA.heap D;have L:=C.av m;refine aa.go b YR (λ_=>fM R R R Try.func7 Zx NX) λw b=> ?_;have M:aB a1 #[H6 (some ⟨i,0,none⟩) 3 3,.int .i64 (W8 p)] ((#[D1 71,.tmp 75]:Array z9).map (s6 ⟨y1,[]⟩)):=rf (A.fr 71 YQ R) (A.fr 75 YQ R);refine HY (js:=MU p) (n:=3) (W:=W8 p) (E.ext K) (IQ (BC p) (λf hi=> ?_) λt hg f hi w hw=> ?_) ?_ b M (by unfold W8;omega) (by unfold W8;omega) YQ YQ
 ·rcases (by omega:f=0\/f=1\/f=2)with rfl | rfl | rfl
  ·exact ⟨λj z I=>m.2 _ _ (o j z YS),R⟩
  ·refine ⟨λj z I=>m.2 _ _ ?_,R⟩;have:=o (6 + j) z (by rw[List.append_assoc,List.getElem?_append_right (by show 6<=_;omega),show 6 + j - (BC p 0).length=j by show 6 + j - 6=j;omega,List.getElem?_append_left (pS I)];exact I);grind
  ·refine ⟨λj z I=>m.2 _ _ ?_,R⟩;have:=o (12 + j) z (by rw[List.getElem?_append_right (by show 12<=_;omega),show 12 + j - (BC p 0 ++ BC p 1).length=j by show 12 + j - 12=j;omega];exact I);grind
 ·have B:=L.av hg;rcases (by omega:f=0\/f=1\/f=2)with rfl | rfl | rfl
  ·exact vn (js:=MU p) (g:=gA) R nD rG B.s0 B.list (by have:=C.l0;omega) (by have:=C.pX;omega) w hw
  ·exact vn (js:=MU p) (g:=jA) R nD rG B.s1 B.list (by have:=C.l1;omega) (by have:=C.pX;omega) w hw
  ·exact Ej (js:=MU p) (g:=jA) R Ik w
 intro J a2 v2 F2 w2 Rl Y z a3 N b O q I;rw[bu R];have r:=(aB.mono N A).put (d:=some 76) (tO I (.int .i64 0));change aB a2 ((dq _).setIfInBounds 76 _) _ at r;rw[oK]at r;have c:M3 (up (up u [(71,H6 (some ⟨i,0,none⟩) 3 3),(72,.int .u8 p.b3),(73,.int .i64 p.b3),(74,.int .i64 ((p.b3 % 8:Nat):Int)),(75,.int .i64 (W8 p)),(16,H6 (some ⟨i,0,none⟩) 3 3),(3,.int .u8 p.b3)]) [(76,.tuple #[H6 (some ⟨Rl,0,none⟩) 3 3,.int .i64 0])]) p:=⟨R,s.s4,s.eX,s.fQ,s.fS,s.gN,s.fR⟩;have P:(up (up u [(71,H6 (some ⟨i,0,none⟩) 3 3),(72,.int .u8 p.b3),(73,.int .i64 p.b3),(74,.int .i64 ((p.b3 % 8:Nat):Int)),(75,.int .i64 (W8 p)),(16,H6 (some ⟨i,0,none⟩) 3 3),(3,.int .u8 p.b3)]) [(76,.tuple #[H6 (some ⟨Rl,0,none⟩) 3 3,.int .i64 0])]) 76= .tuple #[H6 (some ⟨Rl,0,none⟩) 3 3,.int .i64 0]:=rfl;generalize up (up u [(71,H6 (some ⟨i,0,none⟩) 3 3),(72,.int .u8 p.b3),(73,.int .i64 p.b3),(74,.int .i64 ((p.b3 % 8:Nat):Int)),(75,.int .i64 (W8 p)),(16,H6 (some ⟨i,0,none⟩) 3 3),(3,.int .u8 p.b3)]) [(76,.tuple #[H6 (some ⟨Rl,0,none⟩) 3 3,.int .i64 0])]=u2 at r c P;refine uV (Q:=λx' t=>x'=dq (up u2 [(70,.tuple #[H6 (some ⟨Rl,0,none⟩) 3 3,.int .i64 0]),(77,H6 (some ⟨Rl,0,none⟩) 3 3),(78,.int .i64 0),(17,H6 (some ⟨Rl,0,none⟩) 3 3),(18,.int .i64 0),(76,.tuple #[H6 (some ⟨Rl,0,none⟩) 3 3,.int .i64 0])])/\t.heap=v2.heap) 6 5 Zx Zx Zx YU YU b r (λtp=> ?_) ?_
 ·rw[x,bf u2,P];clear b hv s C o hK E e8 Z x A M r c q L m O D;go_wp2
  exact ⟨Zx,R⟩
 rintro a4 x4 y4 v4 w4 F4 a5 ⟨rfl,T⟩ b a6;refine aa.aH b λw b=> ?_;have V:=aA.heap T;exact hK J a4 v4 F4 w y4 (up u2 [(70,.tuple #[H6 (some ⟨Rl,0,none⟩) 3 3,.int .i64 0]),(77,H6 (some ⟨Rl,0,none⟩) 3 3),(78,.int .i64 0),(17,H6 (some ⟨Rl,0,none⟩) 3 3),(18,.int .i64 0),(76,.tuple #[H6 (some ⟨Rl,0,none⟩) 3 3,.int .i64 0])]) Rl Y a3 ((K.trans N).trans a5) b ((m.trans O).trans V) (λf hi=>⟨(q f hi).1.av V,λk hk=>by have:=(q f hi).2 k hk;unfold u0 at this ⊢;grind⟩) ⟨c.s3,c.s4,c.eX,c.fQ,c.fS,c.gN,c.fR⟩ R R a6
end
def Jq (u:Nat->q6):List (Nat×q6)->Prop
 | []=>True
 | q::l=>u q.1=q.2/\Jq u l
def Fr (p:P3)(l:List (Nat×q6))(x:Array q6):Prop:= ∃u,x=dq u/\M3 u p/\Jq u l
theorem aM(h:y.size=316):y=dq λk=>y.getD k U:=by
 apply C0;intro i;by_cases a:i<316
 ·rw[dE _ a,A2,p8 YP];rfl
 ·rw[r6 (xs:=y) YP,r6 (xs:=dq _) (by rw[fh];omega)]
noncomputable def MF:r3:=match T9 with | .seq c _=>c | _=> .skip
noncomputable def gX:r3:=match T9 with | .seq _ c=>c | _=> .skip
noncomputable def MG:r3:=match gX with | .seq c _=>c | _=> .skip
noncomputable def iu:r3:=match gX with | .seq _ c=>c | _=> .skip
noncomputable def MH:r3:=match iu with | .seq c _=>c | _=> .skip
noncomputable def iv:r3:=match iu with | .seq _ c=>c | _=> .skip
def Qq (p:P3)(b:Nat)(v:World)(x:Array q6)(a:World):Prop:= ∃B L,Fr p [(17,H6 (S ⟨b,0,none⟩) 3 3),(19,ptr B),(20,I2 I3 0)] x/\bU a v.heap.size a.heap.size B L p.k0 gG (cb p.tZ) aI gA 0/\ar v a
def Qr (p:P3)(d B:Nat)(v:World)(x:Array q6)(b:World):Prop:= ∃a c,Fr p [(17,H6 (S ⟨d,0,none⟩) 3 3),(19,ptr B),(20,I2 I3 0),(21,ptr a),(22,I2 I3 0)] x/\v.heap.size<=a/\v.heap.size<=c/\aF b a c p.k1 gG (cb p.AU) aI/\ar v b
variable {p:P3}
theorem Rc (b:M3 u p)(c:u 17= H6 (S ⟨i,0,none⟩) 3 3)(d:u 18= I2 I3 0)(g:v.cell? ⟨i,0,none⟩=S (I2 I3 0))(h:v.cell? ⟨i,8,none⟩=S (I2 I3 5)):
  MF.wp Try.prog (λe a f=>e= .normal/\a.defers= []/\(Fr p [(17,H6 (S ⟨i,0,none⟩) 3 3)] a.tmps/\f.heap=v.heap)) ⟨dq u,[]⟩ v:=by
 have e:MF=MF:=rfl;conv at e=>rhs;unfold MF T9 T8 T7 T6 T5 T3;simp only[Try.f3]
 rw[e,bf u,b.s3,b.s4,b.eX,b.fQ,b.fS,b.gN,b.fR,c,d];clear e b c d;unfold ptr;go_wp2
 exact ⟨_,aM R,⟨R,R,R,R,R,R,R⟩,R,trivial⟩
theorem Rd (b:M3 u p)(c:W3 v p)(d:u 17= H6 (S ⟨i,0,none⟩) 3 3):
  MG.wp Try.prog (λe a f=>e= .normal/\a.defers= []/\Qq p i v a.tmps f) ⟨dq u,[]⟩ v:=by
 have e:MG=MG:=rfl;conv at e=>rhs;unfold MG gX T9 T8 T7 T6 T5 T3;simp only[Try.f3]
 rw[e,bf u,b.s3,b.s4,b.eX,b.fQ,b.fS,b.gN,b.fR,d];have g:=au (vh 4604930618986332160 4602678819172646912 p.k0 (.slice p.p0 p.k0 p.q0) gA gG (cb p.tZ) v nD rG c.s0 (by have:=c.l0;omega));have k:v.cell? ⟨p.f0,0,none⟩=S (I0 I1 4604930618986332160 4602678819172646912):=c.f0 0 _ R;have l:v.cell? ⟨p.f0,1,none⟩=S (.slice p.p0 p.k0 p.q0):=c.f0 1 _ R;have m:v.cell? ⟨p.gb,0,none⟩=S (.bool true):=c.gb 0 _ R;have n:v.cell? ⟨p.gb,1,none⟩=S (.bool false):=c.gb 1 _ R;have o:v.cell? ⟨p.gb,2,none⟩=S (.bool true):=c.gb 2 _ R;clear e b d c;unfold ptr;go_wp2_with (go_at_call 8;refine (ae g).mono ?_;rintro e q ⟨B,L,rfl,h,j⟩)
 unfold Qq;exact ⟨B,L,⟨_,aM R,⟨R,R,R,R,R,R,R⟩,R,R,R,trivial⟩,h,ar.ba j (Nat.le_refl _)⟩
theorem Re(b:M3 u p)(c:W3 v p)(d:u 17= H6 (S ⟨i,0,none⟩) 3 3)(f:u 19=ptr k)(g:u 20= I2 I3 0):
  MH.wp Try.prog (λe a h=>e= .normal/\a.defers= []/\Qr p i k v a.tmps h) ⟨dq u,[]⟩ v:=by
 have e:MH=MH:=rfl;conv at e=>rhs;unfold MH iu gX T9 T8 T7 T6 T5 T3;simp only[Try.f3]
 rw[e,bf u,b.s3,b.s4,b.eX,b.fQ,b.fS,b.gN,b.fR,d,f,g];have j:=au (Ey (w:=v) (sec:=cb p.AU) nD rG c.s1 (by have:=c.l1;omega));have s:v.cell? ⟨p.f1,0,none⟩=S (I0 I1 4604930618986332160 4602678819172646912):=c.f1 0 _ R;have t:v.cell? ⟨p.f1,1,none⟩=S (.slice p.p1 p.k1 p.q1):=c.f1 1 _ R;clear e b d c f g;unfold ptr;go_wp2_with (go_at_call 9;refine (ae j).mono ?_;rintro e x ⟨l,m,rfl,n,o,q,r⟩)
 unfold Qr;exact ⟨l,m,⟨_,aM R,⟨R,R,R,R,R,R,R⟩,R,R,R,R,R,trivial⟩,n,o,q,ar.ba r (Nat.le_refl _)⟩
theorem oF{K:H8->World->Prop}
  (g:h[i]? =S o)(j:A9 o (G4 h A.tmps)=true)(k:bD P o A w D)(d: ∀v b,D v b->K (A.put o.dst v) b):wpOp P h Q i K A w:=by
 unfold wpOp;simp only[g,j,if_true];refine .inl ?_;unfold Oper.wp;rcases k with ⟨v,b,a,c⟩ | ⟨b,a,c⟩ | ⟨f,args,a,l⟩
 ·rw[a];exact d _ _ c
 ·rw[a];exact d _ _ c
 ·rw[a];exact l.mono λe m ⟨v,n,c⟩=>YS
theorem qX(V:Nat->q6->Prop)(C:Array Bool->Act->World->Prop)
  (hm:P.follows .mixedOrders=true)
  (D:(A3 h.size).all (λa=>((h[a]?).map λo=>o.after.all λe=> !D4 .any e || decide (e.on<a)).getD true)=true)
  (H:(A3 h.size).all (λa=>(A3 h.size).all λj=>decide (a=j) || ((h[a]?).bind (·.dst)).isNone || decide ((h[a]?).bind (·.dst)≠(h[j]?).bind (·.dst)))=true)
  (n:Nat)(E:(A3 h.size).all (λa=>(((h[a]?).bind (·.dst)).map λd=>decide (d<n)).getD true)=true)
  (h0:A.tmps.size=n)(T:C (Array.replicate h.size false) A w.drew)
  (hs: ∀ (listed:Array Bool)(f:Act)(u:World) a o,ez h A V C listed f u->h[a]? =some o->listed.size=h.size->listed.getD a true=false->(∀e∈o.after,D4 .any e=true->listed.getD e.on false=true)->
   A9 o (G4 h f.tmps)=true/\bD P o f u (λv I=>(∀d,o.dst=some d->V d v)/\C (listed.setIfInBounds a true) (f.put o.dst v) I))
  (he: ∀ (listed:Array Bool)(f:Act)(u:World),ez h A V C listed f u->(∀a,a<h.size->listed.getD a false=true)->Q .normal f u):
  (C1 i h true).wp P Q A w:=by
 have HB: ∀a o,h[a]? =some o-> ∀e∈o.after,D4 .any e=true->e.on<a:=by intro a o p;have W:a<h.size:=YS;have r:=C6.1 D a YS;rw[p]at r;simp only[B1,C4,Array.all_eq_true_iff_forall_mem]at r;intro e z N;have:=r e z;simpa[N]using this
 have HD: ∀ (a j:Nat)(o x:Oper)(d:Nat),h[a]? =some o->h[j]? =some x->o.dst=some d->x.dst=some d->a=j:=by intro a j o x d p b F c;have W:a<h.size:=YS;have hj:j<h.size:=YS;have r:=C6.1 (C6.1 H a YS) j YS;rw[p,b]at r;simpa[F,c]using r
 have HN: ∀ (a:Nat)(o:Oper)(d:Nat),h[a]? =some o->o.dst=some d->d<n:=by intro a o d p F;have W:a<h.size:=YS;have r:=C6.1 E a YS;rw[p]at r;simp only[Option.bind_some,F,B1,C4]at r;simpa using r
 refine wp_region_any hm ?_;refine sD (λa o p=>HB a o p) (λlisted f u=>listed.size=h.size/\ez h A V C listed f u) ?_ (λlisted f u a2 r=>he listed f u a2.2 r) h.size _ A _ YR (Nat.le_trans (Array.countP_le_size) YR) ?_
 ·intro listed f u a o s p O F;obtain ⟨X,s⟩:=s;have W:a<h.size:=YS;obtain ⟨Y,Z⟩:=hs listed f u a o s p X O F;refine oF p Y Z ?_;intro v I a0;obtain ⟨hv,hC⟩:=a0;refine ⟨YS,?_⟩;have J: ∀t d,o.dst=some d->t≠d->(f.put o.dst v).eval (.tmp t)=f.eval (.tmp t):=by intro t d q J;refine Act.eval_put ?_;intro y c e;rw[q]at c;cases c;cases e;exact J R
  have a1: ∀t,o.dst=none->(f.put o.dst v).eval (.tmp t)=f.eval (.tmp t):=by intro t q;rw[q];rfl
  have l: ∀t,o.dst≠some t->(f.put o.dst v).eval (.tmp t)=f.eval (.tmp t):=by
   intro t ht;cases K:o.dst with
   | none=>rfl
   | some d=>grind
  have G:a<listed.size:=YP;have L:(listed.setIfInBounds a true).getD a false=true:=by simp[G]
  refine ⟨?_,?_,?_,?_,?_,?_,hC⟩
  ·cases K:o.dst with
   | none=>simpa[Act.put]using s.size
   | some d=>simpa[Act.put]using s.size
  ·cases K:o.dst with
   | none=>simpa[Act.put]using s.defers
   | some d=>simpa[Act.put]using s.defers
  ·intro t ht;rw[l t ?_];·exact s.base t ht
   ·have:=Array.all_eq_true_iff_forall_mem.1 ht o (Array.mem_of_getElem? p);grind
  ·intro j x y b c g;have m:j≠a:=by rintro rfl;rw[L]at g;cases g
   rw[r9 false (Ne.symm m)]at g;rw[l y (λq=>m (HD j a x o y b p c q))];exact s.pre j x y b c g
  ·intro j x y b c g;by_cases m:j=a
   ·subst m;rw[p]at b;cases b;have G:y<f.tmps.size:=by rw[s.size,h0];exact HN j o y p c
    have:(f.put o.dst v).eval (.tmp y)=v:=by rw[c];simp[Act.put,Act.eval,G]
    grind
   ·rw[r9 false (Ne.symm m)]at g;rw[l y (λq=>m (HD j a x o y b p c q))];exact s.slot j x y b c g
  ·intro j x b g e z N;have B: ∀k,listed.getD k false=true->(listed.setIfInBounds a true).getD k false=true:=λk hk=>getD_set_true hk;by_cases m:j=a
   ·subst m;rw[p]at b;cases b;exact B _ (F e z N)
   ·rw[r9 false (Ne.symm m)]at g;exact B _ (s.closed j x b g e z N)
 ·have M: ∀a,(Array.replicate h.size false).getD a false=false:=by intro a;rw[Array.getD_eq_getD_getElem?,Array.getElem?_replicate];split<;>rfl
  refine ⟨YR,R,R,λ_ _=>rfl,λ_ _ _ _ _ _=>rfl,?_,?_,T⟩
  ·intro a o d p F O;rw[M]at O;cases O
  grind
theorem cG(a:o.guard=none):A9 o (G4 h A.tmps)=true:=by simp[A9,a]
theorem aQ{p:E3}(b:o.guard=some (j,false))(c:h[j]? =some p)(d:p.dst=some i)(e:A.eval (.tmp i)= .bool false):A9 o (G4 h A.tmps)=true:=by
 have a:A.tmps.getD i U= .bool false:=e;have f:A.tmps[i]? =some (.bool false):=by
  rw[A2]at a;cases g:A.tmps[i]? with
  | none=>rw[g]at a;cases a
  | some v=>grind
 simp[A9,b,G4,c,d,f]
theorem ez.yes{V:Nat->q6->Prop}{C:Array Bool->H8->World->Prop}{a:H8}(c:ez h A V C s a w)(l:List Nat)(b:Nat)(d:path h ((i::l) ++ [b])=true)(f:s.getD i false=true):s.getD b false=true:=by
 cases e:s.getD b false with
 | true=>rfl
 | false=>have:=c.no l b i d e;grind
theorem yZ{y:z9}{k:H0}(a:o.op= .binOp .neq C x y C)(c:b x= .int k Z)(d:b y= .int k Z)(e:C=40\/C=44):(execOp b o).run Try.prog w= .ok (.value (.bool false)) w:=by rcases e with rfl | rfl<;>(unfold execOp;simp only[a,c,d];go_simp)
theorem nn {y z:z9}(a:o.op= .pick x y z)(c:b x= .bool false)(d:b z= .bool false):(r4 b o).run Try.prog w= .ok (.value (.bool false)) w:=by unfold r4;simp only[a,c,d];go_simp
theorem zb(a:o.op= .unOp .not C x)(c:b x= .bool true):(r4 b o).run Try.prog w= .ok (.value (.bool false)) w:=by unfold r4;simp only[a,c];go_simp
theorem tV(a:o.op= .fieldAddr 46 x j)(c:b x= I4 (S ⟨i,k,none⟩))(e:j<4)(d:n=k + j):(execOp b o).run Try.prog w= .ok (.value (I4 (S ⟨i,n,none⟩))) w:=by subst d;rcases (by omega:j=0\/j=1\/j=2\/j=3)with rfl | rfl | rfl | rfl<;>(unfold execOp;simp only[a,c];go_simp)
theorem Iw {p:E7}(h:w.cell? p=S (.slice c n i)):(E8 43 (.pointer (S p))).run Try.prog w= .ok (.slice c n i) w:=by go_simp
theorem Et {p:E7}(h:w.cell? p=S (.int .u64 Z)):(E8 44 (.pointer (S p))).run Try.prog w= .ok (.int .u64 Z) w:=by go_simp
theorem ar.trans'(h:ar v w)(k:Apart w I i L)(b:v.heap.size<=i)(c:v.heap.size<=L):ar v I:=⟨x0 h.1 k.size,λx a=>(k.block x (z7 a h.1) YP YP).trans (h.2 x a)⟩
theorem cQ.av{A:Nat}(h:cQ v A n g)(k:aA v w):cQ w A n g:=λi a=>by obtain ⟨p,q,b,c⟩:=h i a;exact ⟨p,q,λj u d=>k.2 _ _ (b j u d),c⟩
theorem xF(h:dy v i (n * 2) (flat g)):cQ v i n g:=λa d=>by obtain ⟨p,e,b⟩:=h (a * 2) YP;obtain ⟨q,f,c⟩:=h (a * 2 + 1) YP;unfold flat at b c;rw[if_pos YP,show a * 2 / 2=a by omega]at b;rw[if_neg YP,show (a * 2 + 1) / 2=a by omega]at c;refine ⟨p,q,λj u k=> ?_,b,c⟩;grind
theorem fB(h:(s.setIfInBounds i true).getD j false=false):s.getD j false=false:=by
 by_cases e:i=j
 ·subst e;cases a:s.getD i false with
  | false=>rfl
  | true=>
   rw[A2]at a h;rw[C8,if_pos R]at h;split at h
   ·simp at h
   ·rename_i b;rw[r6 YP]at a;simp at a
 simp_all
def Dk (p:P3):Nat:=gM gA gG p.k0 (cb p.tZ) aI p.X p.m
def Sl (p:P3)(a B b c d e:Nat):Nat->q6->Prop
 | 111,u=>u= I2 I3 0
 | 112,u=>u= .bool false
 | 113,u=>u= .bool false
 | 114,u=>u= I2 I3 0
 | 115,u=>u= .bool false
 | 116,u=>u= .bool false
 | 117,u=>u= .bool false
 | 118,u=>u= H6 (S ⟨a,0,none⟩) 3 3
 | 119,u=>u= I4 (S ⟨a,0,none⟩)
 | 120,u=>u= I4 (S ⟨a,1,none⟩)
 | 121,u=>u= H6 (S ⟨c,0,none⟩) p.m p.m
 | 122,u=>u=ptr B
 | 123,u=>u= .slice p.ad p.m p.c
 | 125,u=>u= .bool true
 | 126,u=>u= .bool false
 | 127,u=>u= .bool false
 | 128,u=>u= .bool false
 | 129,u=>u= H6 (S ⟨a,0,none⟩) 3 3
 | 130,u=>u= I4 (S ⟨a,0,none⟩)
 | 131,u=>u= I4 (S ⟨a,3,none⟩)
 | 132,u=>u= .int .u64 (Dk p)
 | 133,u=>u=ptr B
 | 134,u=>u= .int .u64 (Dk p)
 | 135,u=>u= .bool false
 | 136,u=>u= .bool false
 | 137,u=>u= .bool false
 | 138,u=>u= H6 (S ⟨a,0,none⟩) 3 3
 | 139,u=>u= I4 (S ⟨a,0,none⟩)
 | 140,u=>u= I4 (S ⟨a,2,none⟩)
 | 141,u=>u= H6 (S ⟨d,0,none⟩) p.k0 p.k0
 | 142,u=>u=ptr B
 | 144,u=>u= .bool true
 | 145,u=>u= .bool false
 | 146,u=>u= .bool false
 | 147,u=>u= .bool false
 | 148,u=>u= H6 (S ⟨a,0,none⟩) 3 3
 | 149,u=>u= I4 (S ⟨a,4,none⟩)
 | 150,u=>u= I4 (S ⟨a,5,none⟩)
 | 151,u=>u= H6 (S ⟨e,0,none⟩) p.m p.m
 | 152,u=>u=ptr b
 | 153,u=>u= .slice p.ad p.m p.c
 | 155,u=>u= .bool true
 | 156,u=>u= .bool false
 | 157,u=>u= .bool false
 | _,_=>True
structure Qb (p:P3)(vN:World)(M B L Bc Lc:Nat)(listed:Array Bool)(a:H8)(w:World):Prop where
 low:ar vN w
 g0:listed.getD 13 false=false->bU w vN.heap.size M B L p.k0 gG (cb p.tZ) aI gA 0
 g1:listed.getD 13 false=true->bU w vN.heap.size M B L p.k0 gG (cb p.tZ) (jr gA gG p.k0 (cb p.tZ) aI p.X p.m) gA (Dk p)
 r1:listed.getD 13 false=true->listed.getD 14 false=false-> ∃A,a.eval (.tmp 124)= H6 (S ⟨A,0,none⟩) p.m p.m/\dy w A p.m (gT gA gG p.k0 (cb p.tZ) aI p.X)
 c0:listed.getD 43 false=false->aF w Bc Lc p.k1 gG (cb p.AU) aI
 s1:listed.getD 32 false=true->listed.getD 33 false=false-> ∃A,a.eval (.tmp 143)= H6 (S ⟨A,0,none⟩) p.k0 p.k0/\cQ w A p.k0 (jr gA gG p.k0 (cb p.tZ) aI p.X p.m)
 r2:listed.getD 43 false=true->listed.getD 44 false=false-> ∃A,a.eval (.tmp 154)= H6 (S ⟨A,0,none⟩) p.m p.m/\dy w A p.m (hU gG p.k1 (cb p.AU) aI p.X)
theorem Qb.keep{B:Nat}{a:H8}{w':World}(h:Qb p v M B L k n s a w)(i d:Nat)(u:q6)(g:i≠13/\i≠32/\i≠43)(j:d≠124/\d≠143/\d≠154)(f:Still w w'):Qb p v M B L k n (s.setIfInBounds i true) (a.put (S d) u) w':=by
 have m:(s.setIfInBounds i true).getD 13 false=s.getD 13 false:=r9 false g.1;have o:(s.setIfInBounds i true).getD 32 false=s.getD 32 false:=r9 false g.2.1;have x:(s.setIfInBounds i true).getD 43 false=s.getD 43 false:=r9 false g.2.2;have l: ∀ {t},d≠t->(a.put (S d) u).eval (.tmp t)=a.eval (.tmp t):=λ{t} y=>A8 YS;have b:=pV f;refine ⟨h.low.trans b,λq=>(h.g0 YS).still f,λq=>(h.g1 YS).still f,λq c=> ?_,λq=>(h.c0 YS).below (f _),λq c=> ?_,λq c=> ?_⟩
 ·obtain ⟨A,e,r⟩:=h.r1 YS (fB c);exact ⟨A,(l j.1).trans e,r.av b.av⟩
 ·obtain ⟨A,e,r⟩:=h.s1 YS (fB c);exact ⟨A,(l j.2.1).trans e,r.av b.av⟩
 ·obtain ⟨A,e,r⟩:=h.r2 YS (fB c);exact ⟨A,(l j.2.2).trans e,r.av b.av⟩
noncomputable def MM:Array E3:=match iv with | .seq (.seq (.region _ o _) _) _=>o | _=> #[]
theorem OV{vN:World}(t:y.size=316)(O:y[11]? =S (.slice p.ad p.m p.c))(B:y[17]? =S (H6 (S ⟨i,0,none⟩) 3 3))(H:y[19]? =S (ptr k))(a2:y[20]? =S (I2 I3 0))(a3:y[21]? =S (ptr n))(a4:y[22]? =S (I2 I3 0))
  (P:bj vN (.slice p.ad p.m p.c) p.m p.X)(hm:p.m<=100)(b9:p.k0<=4)(c1:p.k1<=4)(Q:ar vN v)(a5:bU v vN.heap.size M k L p.k0 gG (cb p.tZ) aI gA 0)(a6:aF v n j p.k1 gG (cb p.AU) aI)(c2:M<=n)(c3:M<=j)(hM:vN.heap.size<=M)
  (a7:vN.cell? ⟨i,1,none⟩=S (H6 (S ⟨N,0,none⟩) p.m p.m))(a8:vN.cell? ⟨i,2,none⟩=S (H6 (S ⟨m,0,none⟩) p.k0 p.k0))(a9:vN.cell? ⟨i,3,none⟩=S (.int .u64 (Dk p)))(b0:vN.cell? ⟨i,5,none⟩=S (H6 (S ⟨W,0,none⟩) p.m p.m))
  (b1:dy vN N p.m (gT gA gG p.k0 (cb p.tZ) aI p.X))(b2:cQ vN m p.k0 (jr gA gG p.k0 (cb p.tZ) aI p.X p.m))(b3:dy vN W p.m (hU gG p.k1 (cb p.AU) aI p.X)):
  (C1 14 MM true).wp Try.prog (λe a w'=>e= .normal/\a.defers= []/\(a.tmps.size=316/\a.tmps[157]? =S (.bool false)/\(∀g:Nat,g<111\/157<g->a.tmps[g]? =y[g]?)/\ar vN w')) ⟨y,[]⟩ v:=by
 have e3:MM=MM:=rfl;conv at e3=>rhs;unfold MM iv iu gX T9 T8 T7 T6 T5 T3;simp only[Try.f3]
 rw[e3];refine qX (Sl p i k n N m W) (Qb p vN M k L n j) Zx Zx Zx 316 Zx t ⟨Q,λ_=>a5.still (dJ v),λh=>by simp at h,λh=>by simp at h,λ_=>a6.below (dJ v _),λh=>by simp at h,λh=>by simp at h⟩ ?_ ?_
 ·intro listed q T g o d ho D b4 f;have V:g<47:=by simpa using (q9.1 ho).1
  have c:=d.world;have E:=cz b4 D (by simpa using V);have F: ∀C,C≠g->(listed.setIfInBounds g true).getD C false=listed.getD C false:=λC X=>r9 false (Ne.symm X);have gi:=bS D (by simpa using V);rcases (by omega:g=0\/g=1\/g=2\/g=3\/g=4\/g=5\/g=6\/g=7\/g=8\/g=9\/g=10\/g=11\/g=12\/g=13\/g=14\/g=15\/g=16\/g=17\/g=18\/g=19\/g=20\/g=21\/g=22\/g=23\/g=24\/g=25\/g=26\/g=27\/g=28\/g=29\/g=30\/g=31\/g=32\/g=33\/g=34\/g=35\/g=36\/g=37\/g=38\/g=39\/g=40\/g=41\/g=42\/g=43\/g=44\/g=45\/g=46)with rfl | rfl | rfl | rfl | rfl | rfl | rfl | rfl | rfl | rfl | rfl | rfl | rfl | rfl | rfl | rfl | rfl | rfl | rfl | rfl | rfl | rfl | rfl | rfl | rfl | rfl | rfl | rfl | rfl | rfl | rfl | rfl | rfl | rfl | rfl | rfl | rfl | rfl | rfl | rfl | rfl | rfl | rfl | rfl | rfl | rfl | rfl
  all_goals obtain rfl:=B5 ho
  ·exact ⟨cG R,aJ R ((d.base 20 Zx).trans (ay a2)) ⟨aj R R,c.keep 0 111 _ YQ YQ (Still.refl _)⟩⟩
  ·exact ⟨cG R,aL (yZ R (d.slot 0 _ 111 R R (f ⟨0,.data⟩ YR R)) R (.inl R)) ⟨aj R R,c.keep 1 112 _ YQ YQ (Still.refl _)⟩⟩
  ·exact ⟨cG R,aJ R (d.slot 1 _ 112 R R (f ⟨1,.data⟩ YR R)) ⟨aj R R,c.keep 2 113 _ YQ YQ (Still.refl _)⟩⟩
  ·exact ⟨aQ R R R (d.slot 2 _ 113 R R (f ⟨2,.guard⟩ YR R)),aJ R ((d.base 22 Zx).trans (ay a4)) ⟨aj R R,c.keep 3 114 _ YQ YQ (Still.refl _)⟩⟩
  ·exact ⟨aQ R R R (d.slot 2 _ 113 R R (f ⟨2,.guard⟩ YR R)),aL (yZ R (d.slot 3 _ 114 R R (f ⟨3,.data⟩ YR R)) R (.inl R)) ⟨aj R R,c.keep 4 115 _ YQ YQ (Still.refl _)⟩⟩
  ·exact ⟨cG R,aL (nn R (d.slot 2 _ 113 R R (f ⟨2,.data⟩ YR R)) (d.slot 4 _ 115 R R (f ⟨4,.data⟩ YR R))) ⟨aj R R,c.keep 5 116 _ YQ YQ (Still.refl _)⟩⟩
  ·exact ⟨cG R,aJ R (d.slot 5 _ 116 R R (f ⟨5,.data⟩ YR R)) ⟨aj R R,c.keep 6 117 _ YQ YQ (Still.refl _)⟩⟩
  ·exact ⟨aQ R R R (d.slot 6 _ 117 R R (f ⟨6,.guard⟩ YR R)),aJ R ((d.base 17 Zx).trans (ay B)) ⟨aj R R,c.keep 7 118 _ YQ YQ (Still.refl _)⟩⟩
  ·exact ⟨aQ R R R (d.slot 6 _ 117 R R (f ⟨6,.guard⟩ YR R)),cN (v:= I2 I3 ((0:Nat):Int)) R (d.slot 7 _ 118 R R (f ⟨7,.data⟩ YR R)) R (iI _ _ _ _ _ YQ YQ) ⟨aj R R,c.keep 8 119 _ YQ YQ (Still.refl _)⟩⟩
  ·exact ⟨aQ R R R (d.slot 6 _ 117 R R (f ⟨6,.guard⟩ YR R)),aL (tV R (d.slot 8 _ 119 R R (f ⟨8,.data⟩ YR R)) YQ R) ⟨aj R R,c.keep 9 120 _ YQ YQ (Still.refl _)⟩⟩
  ·exact ⟨aQ R R R (d.slot 6 _ 117 R R (f ⟨6,.guard⟩ YR R)),bZ R (d.slot 9 _ 120 R R (f ⟨9,.data⟩ YR R)) (gq (c.low.cell a7)) ⟨aj R R,c.keep 10 121 _ YQ YQ (Still.refl _)⟩⟩
  ·exact ⟨aQ R R R (d.slot 6 _ 117 R R (f ⟨6,.guard⟩ YR R)),aJ R ((d.base 19 Zx).trans (ay H)) ⟨aj R R,c.keep 11 122 _ YQ YQ (Still.refl _)⟩⟩
  ·exact ⟨aQ R R R (d.slot 6 _ 117 R R (f ⟨6,.guard⟩ YR R)),aJ R ((d.base 11 Zx).trans (ay O)) ⟨aj R R,c.keep 12 123 _ YQ YQ (Still.refl _)⟩⟩
  ·refine ⟨aQ R R R (d.slot 6 _ 117 R R (f ⟨6,.guard⟩ YR R)),?_⟩;have z:=c.g0 E;obtain ⟨z1,z2,z3,z4,z5,z6⟩:=z.lt;have hl:=P.av c.low.av;refine gw (us:= #[ptr k,.slice p.ad p.m p.c]) R (by simp only[p9,q7,q8];rw[show q.eval (.tmp 122)=_ from (d.slot 11 _ 122 R R (f ⟨11,.data⟩ YR R)),show q.eval (.tmp 123)=_ from (d.slot 12 _ 123 R R (f ⟨12,.data⟩ YR R))]) Try.func11 Zx YV ((DV vN.heap.size M k L p.k0 0 p.m (.slice p.ad p.m p.c) gA gG p.X (cb p.tZ) aI T z hl (P.off YP) (P.off YP) YP YP YQ).mono ?_);rintro e K ⟨A,rfl,Y,Z,l,a0,r⟩;have b5:=d.no [26,25,24,17,16,15,14] 13 32 Zx E;have w:=d.no [36,35,34,33,32,26,25,24,17,16,15,14] 13 43 Zx E;have I:=c.c0 w;obtain ⟨y1,y2,y3⟩:=I.lt;rw[Nat.zero_add]at a0;refine ⟨_,R,aj R trivial,c.low.trans' r YP YP,λh=>(by simp_all),λ_=>a0,λ_ _=>⟨A,?_,l⟩,λ_=>I.mv (λC u hu=>r.cell hu (by show n≠k;omega) (by show n≠L;omega)) (λ_=>r.block _ y2 YP YP) r.size,λh=>(by rw[F 32 YQ,b5]at h;cases h),λh=>(by rw[F 43 YQ,w]at h;cases h)⟩;show (q.put (S 124) _).eval (.tmp 124)=_;have:=d.size.trans t;simp[D5,s6,this]
  ·refine ⟨aQ R R R (d.slot 6 _ 117 R R (f ⟨6,.guard⟩ YR R)),?_⟩;obtain ⟨A,hA,l⟩:=c.r1 (f ⟨13,.data⟩ YR R) E;refine gw (us:= #[H6 (S ⟨N,0,none⟩) p.m p.m,H6 (S ⟨A,0,none⟩) p.m p.m]) R (by simp only[p9,q7,q8];rw[show q.eval (.tmp 121)=_ from (d.slot 10 _ 121 R R (f ⟨10,.data⟩ YR R)),hA]) Try.func10 Zx YV ((jB N p.m p.m p.m (S ⟨A,0,none⟩) (gT gA gG p.k0 (cb p.tZ) aI p.X) T YP (b1.av c.low.av) (λC X=>by obtain ⟨u,q1,q2⟩:=l C X;exact ⟨A,u,R,q1,q2⟩)).mono ?_);rintro e K ⟨rfl,s⟩;exact ⟨_,R,aj R R,c.keep 14 125 _ YQ YQ s⟩
  ·exact ⟨aQ R R R (d.slot 6 _ 117 R R (f ⟨6,.guard⟩ YR R)),aL (zb R (d.slot 14 _ 125 R R (f ⟨14,.data⟩ YR R))) ⟨aj R R,c.keep 15 126 _ YQ YQ (Still.refl _)⟩⟩
  ·exact ⟨cG R,aL (nn R (d.slot 6 _ 117 R R (f ⟨6,.data⟩ YR R)) (d.slot 15 _ 126 R R (f ⟨15,.data⟩ YR R))) ⟨aj R R,c.keep 16 127 _ YQ YQ (Still.refl _)⟩⟩
  ·exact ⟨cG R,aJ R (d.slot 16 _ 127 R R (f ⟨16,.data⟩ YR R)) ⟨aj R R,c.keep 17 128 _ YQ YQ (Still.refl _)⟩⟩
  ·exact ⟨aQ R R R (d.slot 17 _ 128 R R (f ⟨17,.guard⟩ YR R)),aJ R ((d.base 17 Zx).trans (ay B)) ⟨aj R R,c.keep 18 129 _ YQ YQ (Still.refl _)⟩⟩
  ·exact ⟨aQ R R R (d.slot 17 _ 128 R R (f ⟨17,.guard⟩ YR R)),cN (v:= I2 I3 ((0:Nat):Int)) R (d.slot 18 _ 129 R R (f ⟨18,.data⟩ YR R)) R (iI _ _ _ _ _ YQ YQ) ⟨aj R R,c.keep 19 130 _ YQ YQ (Still.refl _)⟩⟩
  ·exact ⟨aQ R R R (d.slot 17 _ 128 R R (f ⟨17,.guard⟩ YR R)),aL (tV R (d.slot 19 _ 130 R R (f ⟨19,.data⟩ YR R)) YQ R) ⟨aj R R,c.keep 20 131 _ YQ YQ (Still.refl _)⟩⟩
  ·exact ⟨aQ R R R (d.slot 17 _ 128 R R (f ⟨17,.guard⟩ YR R)),bZ R (d.slot 20 _ 131 R R (f ⟨20,.data⟩ YR R)) (Et (c.low.cell a9)) ⟨aj R R,c.keep 21 132 _ YQ YQ (Still.refl _)⟩⟩
  ·exact ⟨aQ R R R (d.slot 17 _ 128 R R (f ⟨17,.guard⟩ YR R)),aJ R ((d.base 19 Zx).trans (ay H)) ⟨aj R R,c.keep 22 133 _ YQ YQ (Still.refl _)⟩⟩
  ·refine ⟨aQ R R R (d.slot 17 _ 128 R R (f ⟨17,.guard⟩ YR R)),?_⟩;have z:=c.g1 (d.yes [17,16,15,14] 13 Zx (f ⟨22,.data⟩ YR R));refine gw (us:= #[ptr k]) R (by simp only[p9,q7,q8];rw[show q.eval (.tmp 133)=_ from (d.slot 22 _ 133 R R (f ⟨22,.data⟩ YR R))]) Try.func12 Zx YV ((uI z).mono ?_);rintro e K ⟨rfl,rfl⟩;exact ⟨_,R,aj R R,c.keep 23 134 _ YQ YQ (Still.refl _)⟩
  ·exact ⟨aQ R R R (d.slot 17 _ 128 R R (f ⟨17,.guard⟩ YR R)),aL (yZ R (d.slot 21 _ 132 R R (f ⟨21,.data⟩ YR R)) (d.slot 23 _ 134 R R (f ⟨23,.data⟩ YR R)) (.inr R)) ⟨aj R R,c.keep 24 135 _ YQ YQ (Still.refl _)⟩⟩
  ·exact ⟨cG R,aL (nn R (d.slot 17 _ 128 R R (f ⟨17,.data⟩ YR R)) (d.slot 24 _ 135 R R (f ⟨24,.data⟩ YR R))) ⟨aj R R,c.keep 25 136 _ YQ YQ (Still.refl _)⟩⟩
  ·exact ⟨cG R,aJ R (d.slot 25 _ 136 R R (f ⟨25,.data⟩ YR R)) ⟨aj R R,c.keep 26 137 _ YQ YQ (Still.refl _)⟩⟩
  ·exact ⟨aQ R R R (d.slot 26 _ 137 R R (f ⟨26,.guard⟩ YR R)),aJ R ((d.base 17 Zx).trans (ay B)) ⟨aj R R,c.keep 27 138 _ YQ YQ (Still.refl _)⟩⟩
  ·exact ⟨aQ R R R (d.slot 26 _ 137 R R (f ⟨26,.guard⟩ YR R)),cN (v:= I2 I3 ((0:Nat):Int)) R (d.slot 27 _ 138 R R (f ⟨27,.data⟩ YR R)) R (iI _ _ _ _ _ YQ YQ) ⟨aj R R,c.keep 28 139 _ YQ YQ (Still.refl _)⟩⟩
  ·exact ⟨aQ R R R (d.slot 26 _ 137 R R (f ⟨26,.guard⟩ YR R)),aL (tV R (d.slot 28 _ 139 R R (f ⟨28,.data⟩ YR R)) YQ R) ⟨aj R R,c.keep 29 140 _ YQ YQ (Still.refl _)⟩⟩
  ·exact ⟨aQ R R R (d.slot 26 _ 137 R R (f ⟨26,.guard⟩ YR R)),bZ R (d.slot 29 _ 140 R R (f ⟨29,.data⟩ YR R)) (Iw (c.low.cell a8)) ⟨aj R R,c.keep 30 141 _ YQ YQ (Still.refl _)⟩⟩
  ·exact ⟨aQ R R R (d.slot 26 _ 137 R R (f ⟨26,.guard⟩ YR R)),aJ R ((d.base 19 Zx).trans (ay H)) ⟨aj R R,c.keep 31 142 _ YQ YQ (Still.refl _)⟩⟩
  ·refine ⟨aQ R R R (d.slot 26 _ 137 R R (f ⟨26,.guard⟩ YR R)),?_⟩;have x:=d.yes [26,25,24,17,16,15,14] 13 Zx (f ⟨31,.data⟩ YR R);have J:=d.yes [26,25,24,17,16,15] 14 Zx (f ⟨31,.data⟩ YR R);have z:=c.g1 x;refine gw (us:= #[ptr k]) R (by simp only[p9,q7,q8];rw[show q.eval (.tmp 142)=_ from (d.slot 31 _ 142 R R (f ⟨31,.data⟩ YR R))]) Try.func14 Zx YV ((Jj z YP).mono ?_);rintro e K ⟨A,rfl,Y,Z,s,hb⟩;have w:=d.no [36,35,34,33] 32 43 Zx E;refine ⟨_,R,aj R trivial,c.low.trans (ar.ba hb (Nat.le_refl _)),λh=>(by rw[F 13 YQ,x]at h;cases h),λ_=>z.below hb,λ_ h=>(by rw[F 14 YQ,J]at h;cases h),λ_=>(c.c0 w).below hb,λ_ _=>⟨A,?_,s⟩,λh=>(by rw[F 43 YQ,w]at h;cases h)⟩;show (q.put (S 143) _).eval (.tmp 143)=_;have:=d.size.trans t;simp[D5,s6,this]
  ·refine ⟨aQ R R R (d.slot 26 _ 137 R R (f ⟨26,.guard⟩ YR R)),?_⟩;obtain ⟨A,hA,l⟩:=c.s1 (f ⟨32,.data⟩ YR R) E;refine gw (us:= #[H6 (S ⟨m,0,none⟩) p.k0 p.k0,H6 (S ⟨A,0,none⟩) p.k0 p.k0]) R (by simp only[p9,q7,q8];rw[show q.eval (.tmp 141)=_ from (d.slot 30 _ 141 R R (f ⟨30,.data⟩ YR R)),hA]) Try.func13 Zx YV ((yK m A p.k0 p.k0 p.k0 _ T YP (b2.av c.low.av) l).mono ?_);rintro e K ⟨rfl,s⟩;exact ⟨_,R,aj R R,c.keep 33 144 _ YQ YQ s⟩
  ·exact ⟨aQ R R R (d.slot 26 _ 137 R R (f ⟨26,.guard⟩ YR R)),aL (zb R (d.slot 33 _ 144 R R (f ⟨33,.data⟩ YR R))) ⟨aj R R,c.keep 34 145 _ YQ YQ (Still.refl _)⟩⟩
  ·exact ⟨cG R,aL (nn R (d.slot 26 _ 137 R R (f ⟨26,.data⟩ YR R)) (d.slot 34 _ 145 R R (f ⟨34,.data⟩ YR R))) ⟨aj R R,c.keep 35 146 _ YQ YQ (Still.refl _)⟩⟩
  ·exact ⟨cG R,aJ R (d.slot 35 _ 146 R R (f ⟨35,.data⟩ YR R)) ⟨aj R R,c.keep 36 147 _ YQ YQ (Still.refl _)⟩⟩
  ·exact ⟨aQ R R R (d.slot 36 _ 147 R R (f ⟨36,.guard⟩ YR R)),aJ R ((d.base 17 Zx).trans (ay B)) ⟨aj R R,c.keep 37 148 _ YQ YQ (Still.refl _)⟩⟩
  ·exact ⟨aQ R R R (d.slot 36 _ 147 R R (f ⟨36,.guard⟩ YR R)),cN (v:= I2 I3 ((1:Nat):Int)) R (d.slot 37 _ 148 R R (f ⟨37,.data⟩ YR R)) R (iI _ _ _ _ _ YQ YQ) ⟨aj R R,c.keep 38 149 _ YQ YQ (Still.refl _)⟩⟩
  ·exact ⟨aQ R R R (d.slot 36 _ 147 R R (f ⟨36,.guard⟩ YR R)),aL (tV R (d.slot 38 _ 149 R R (f ⟨38,.data⟩ YR R)) YQ R) ⟨aj R R,c.keep 39 150 _ YQ YQ (Still.refl _)⟩⟩
  ·exact ⟨aQ R R R (d.slot 36 _ 147 R R (f ⟨36,.guard⟩ YR R)),bZ R (d.slot 39 _ 150 R R (f ⟨39,.data⟩ YR R)) (gq (c.low.cell b0)) ⟨aj R R,c.keep 40 151 _ YQ YQ (Still.refl _)⟩⟩
  ·exact ⟨aQ R R R (d.slot 36 _ 147 R R (f ⟨36,.guard⟩ YR R)),aJ R ((d.base 21 Zx).trans (ay a3)) ⟨aj R R,c.keep 41 152 _ YQ YQ (Still.refl _)⟩⟩
  ·exact ⟨aQ R R R (d.slot 36 _ 147 R R (f ⟨36,.guard⟩ YR R)),aJ R ((d.base 11 Zx).trans (ay O)) ⟨aj R R,c.keep 42 153 _ YQ YQ (Still.refl _)⟩⟩
  ·refine ⟨aQ R R R (d.slot 36 _ 147 R R (f ⟨36,.guard⟩ YR R)),?_⟩;have x:=d.yes [36,35,34,33,32,26,25,24,17,16,15,14] 13 Zx (f ⟨41,.data⟩ YR R);have J:=d.yes [36,35,34,33,32,26,25,24,17,16,15] 14 Zx (f ⟨41,.data⟩ YR R);have b6:=d.yes [36,35,34] 33 Zx (f ⟨41,.data⟩ YR R);have z:=c.g1 x;obtain ⟨z1,z2,z3,z4,z5,z6⟩:=z.lt;have hl:=P.av c.low.av;refine gw (us:= #[ptr n,.slice p.ad p.m p.c]) R (by simp only[p9,q7,q8];rw[show q.eval (.tmp 152)=_ from (d.slot 41 _ 152 R R (f ⟨41,.data⟩ YR R)),show q.eval (.tmp 153)=_ from (d.slot 42 _ 153 R R (f ⟨42,.data⟩ YR R))]) Try.func15 Zx YV ((QR (c.c0 E) hl YP (λb b7 ⟨mm,cc,e⟩ h0=>P.off (A:=j) YP h0 b b7 mm cc e) YP).mono ?_);rintro e K ⟨A,rfl,Y,Z,l,I,b8⟩;have r:=Apart.snd j b8;refine ⟨_,R,aj R trivial,c.low.trans' r YP YP,λh=>(by rw[F 13 YQ,x]at h;cases h),λ_=>z.apart r YP YP,λ_ h=>(by rw[F 14 YQ,J]at h;cases h),λh=>(by simp_all),λ_ h=>(by rw[F 33 YQ,b6]at h;cases h),λ_ _=>⟨A,?_,l⟩⟩;show (q.put (S 154) _).eval (.tmp 154)=_;have:=d.size.trans t;simp[D5,s6,this]
  ·refine ⟨aQ R R R (d.slot 36 _ 147 R R (f ⟨36,.guard⟩ YR R)),?_⟩;obtain ⟨A,hA,l⟩:=c.r2 (f ⟨43,.data⟩ YR R) E;refine gw (us:= #[H6 (S ⟨W,0,none⟩) p.m p.m,H6 (S ⟨A,0,none⟩) p.m p.m]) R (by simp only[p9,q7,q8];rw[show q.eval (.tmp 151)=_ from (d.slot 40 _ 151 R R (f ⟨40,.data⟩ YR R)),hA]) Try.func10 Zx YV ((jB W p.m p.m p.m (S ⟨A,0,none⟩) (hU gG p.k1 (cb p.AU) aI p.X) T YP (b3.av c.low.av) (λC X=>by obtain ⟨u,q1,q2⟩:=l C X;exact ⟨A,u,R,q1,q2⟩)).mono ?_);rintro e K ⟨rfl,s⟩;exact ⟨_,R,aj R R,c.keep 44 155 _ YQ YQ s⟩
  ·exact ⟨aQ R R R (d.slot 36 _ 147 R R (f ⟨36,.guard⟩ YR R)),aL (zb R (d.slot 44 _ 155 R R (f ⟨44,.data⟩ YR R))) ⟨aj R R,c.keep 45 156 _ YQ YQ (Still.refl _)⟩⟩
  ·exact ⟨cG R,aL (nn R (d.slot 36 _ 147 R R (f ⟨36,.data⟩ YR R)) (d.slot 45 _ 156 R R (f ⟨45,.data⟩ YR R))) ⟨aj R R,c.keep 46 157 _ YQ YQ (Still.refl _)⟩⟩
 ·intro listed q T d a1;have c:=d.world;have h5:=d.slot 46 _ 157 R R (a1 46 YQ);have G:=d.size.trans t;refine ⟨R,d.defers,G,?_,?_,c.low⟩
  ·have e:q.tmps.getD 157 U= .bool false:=h5;simp_all
  ·have f:=d.defers;obtain ⟨tm,df⟩:=q;dsimp only at f;subst f;exact eH t G λg hk=>d.base g YT
noncomputable def gY:r3:=match iv with | .seq _ c=>c | _=> .skip
noncomputable def RJ:r3:=match iv with | .seq (.seq _ (.cond _ c _)) _=>c | _=> .skip
theorem bU.Lw{G:C2}{a:Nat->dM}{b:Gu}(h:bU v N M i L n G a g b k)(c:ar v w):bU w N M i L n G a g b k:=
 h.below (w':={v with heap:=w.heap}) ⟨R,R,R,c.1,c.2⟩
theorem Ld{us:Nat->List Value}(b:At (E0 e) d v F bO w)(hv:aB d (dq u) y)(hM:M3 u p)(Y:W3 v p)(c: ∀E,E<3->pn (MU p) E (us E) v/\ ∀k,k<4->v.cell? ⟨i,4 * E + k,none⟩=(us E)[k]?)(a0:u 17= H6 (S ⟨i,0,none⟩) 3 3)(a1:u 18= I2 I3 0)
  (hK: ∀r n F' w' y' u',Ext d r->At (E0 e) r n F' bO w'->aA v n->M3 u' p->aB r (dq u') y'->cO a e F' (G (ak 3 y' [.code gY]) l) w'):
  cO a e F (G (ak 3 y [.code T9]) l) w:=by
 have e9:T9= .seq MF (.seq MG (.seq MH (.seq (.seq (.region 14 MM true) (.cond (.tmp 157) RJ .skip)) gY))):=by unfold MF MG MH MM RJ gY iv iu gX T9 T8 T7 T6 T5 T3;simp only[Try.f3]
 rw[e9];clear e9;obtain ⟨A0,S0,e0,_,_,r0,t0⟩:=(c 0 YQ).1;obtain ⟨A1,S1,e1,_,_,r1,_⟩:=(c 1 YQ).1;have e2:us 2=IB:=(c 2 YQ).1;have c0:=(c 0 YQ).2;have c1:=(c 1 YQ).2;have c2:=(c 2 YQ).2;rw[e0]at c0;rw[e1]at c1;rw[e2]at c2;have a2:v.cell? ⟨i,0,none⟩=S (I2 I3 0):=c0 0 YQ;have a3:v.cell? ⟨i,1,none⟩=S (H6 (S ⟨A0,0,none⟩) p.m p.m):=c0 1 YQ;have a4:v.cell? ⟨i,2,none⟩=S (H6 (S ⟨S0,0,none⟩) p.k0 p.k0):=c0 2 YQ;have a5:v.cell? ⟨i,3,none⟩=S (.int .u64 (Dk p)):=c0 3 YQ;have a6:v.cell? ⟨i,5,none⟩=S (H6 (S ⟨A1,0,none⟩) p.m p.m):=c1 1 YQ;have a7:v.cell? ⟨i,8,none⟩=S (I2 I3 5):=c2 0 YQ;have a8:dy v A1 p.m (hU gG p.k1 (cb p.AU) aI p.X):=λj hj=>by obtain ⟨z,q1,q2⟩:=r1 j hj;exact ⟨z,q1,by rw[<-yX];exact q2⟩
 clear c0 c1 c2 c e0 e1 e2;refine aa.ah b λw b=> ?_;refine dY (Q:=λo n=>Fr p [(17,H6 (S ⟨i,0,none⟩) 3 3)] o/\n.heap=v.heap) Zx YU YU b hv (λs=>Rc (v:=aK v s 0) hM a0 a1 a2 a7) ?_;rintro d6 x1 y1 Z w1 F1 a9 ⟨⟨u1,rfl,b0,H,_⟩,I⟩ b b1;have f:=aA.heap I;have x:=Y.av f;refine aa.ah b λw b=> ?_;refine dY (Q:=λo n=>Qq p i Z o n) Zx YU YU b b1 (λs=>Rd (v:=aK Z s 0) b0 (x.av (aA.heap R)) H) ?_;rintro d7 x2 y2 v2 w2 F2 b2 ⟨B,L,⟨u2,rfl,b3,J,b4,b5,_⟩,b6,m⟩ b b7;have b8:=m.av;have b9:=x.av b8;refine aa.ah b λw b=> ?_;refine dY (Q:=λo n=>Qr p i B v2 o n) Zx YU YU b b7 (λs=>Re (v:=aK v2 s 0) b3 (b9.av (aA.heap R)) J b4 b5) ?_;rintro d8 x3 y3 v3 w3 F3 c3 ⟨Bc,Lc,⟨A,rfl,g,K,N,O,c4,c5,_⟩,c6,c7,c9,q⟩ b d0;have d1:=b6.Lw q;refine aa.ah b λw b=> ?_;refine aa.ah b λw b=> ?_;refine dY (Q:=λo n=>o.size=316/\o[157]? =S (.bool false)/\(∀k:Nat,k<111\/157<k->o[k]? =(dq A)[k]?)/\ar Z n) Zx YU YU b d0 (λs=> ?_) ?_
 ·have D: ∀ (k:Nat){z:Value},k<316->A k=z->(dq A)[k]? =S z:=λk z hk d2=>(dE A hk).trans (congrArg S d2);exact OV (v:=aK v3 s 0) (vN:=Z) (L:=L) (M:=v2.heap.size) (fh A) (D 11 YQ g.eX) (D 17 YQ K) (D 19 YQ N) (D 20 YQ O) (D 21 YQ c4) (D 22 YQ c5) x.list Y.pX Y.l0 Y.l1 (m.trans q) d1 (c9.heap R) c6 c7 m.1 (f.2 _ _ a3) (f.2 _ _ a4) (f.2 _ _ a5) (f.2 _ _ a6) (r0.av f) (xF (t0.av f)) (a8.av f)
 rintro d3 x4 y4 v4 w4 F4 d4 ⟨P,T,V,W⟩ b X;refine aa.go b YR (λ_=>bH (X.bool (t:=157) T)) λw b=> ?_;simp only[s7, ↓reduceIte];refine aa.dh b λw b=> ?_;obtain ⟨u4,rfl,d5⟩:=nF P;have C: ∀k:Nat,k<16-> ∀ {z},A k=z->u4 k=z:=λk hk {z} d2=>d5 k z ((V k YP).trans ((dE A YP).trans (congrArg S d2)));exact hK d3 v4 F4 w y4 u4 (((a9.trans b2).trans c3).trans d4) b (f.trans W.av) ⟨C 3 YQ g.s3,C 4 YQ g.s4,C 11 YQ g.eX,C 12 YQ g.fQ,C 13 YQ g.fS,C 14 YQ g.gN,C 15 YQ g.fR⟩ X
def gI:C2:=(lf 0,lf 4607182418800017408)
def SN:Nat->Nat
 | 0=>4604930618986332160
 | 1=>4604930618986332160
 | _=>0
def SL:Nat->Nat
 | 0=>4602678819172646912
 | 1=>4602678819172646912
 | _=>4607182418800017408
def dt:Nat->C2
 | 0=>gG
 | 1=>gG
 | _=>gI
def SY (p:P3):Nat->q6
 | 0=> .slice p.p0 p.k0 p.q0
 | 1=> .slice p.p1 p.k1 p.q1
 | _=> .slice none 0 0
def dj (p:P3):Nat->Nat
 | 0=>p.k0
 | 1=>p.k1
 | _=>0
def aX (p:P3):Nat->Nat->dM
 | 0=>cb p.tZ
 | 1=>cb p.AU
 | _=>cb []
theorem Oz:aS (I0 I1 0 4607182418800017408) gI:=aS.of _ _ YQ YQ
theorem KS:cY (I0 I1 0 4607182418800017408):=⟨_,_,R,YQ,YQ,YQ⟩
theorem nM{l l1 l2:List q6}(h:v.rangeAt i 0 (l1 ++ l ++ l2))(c:k=l1.length):v.rangeAt i k l:=λj z a=>by have b:=pS a;have:=h (k + j) z (by rw[List.append_assoc,A4 YP,show k + j - l1.length=j by omega,List.getElem?_append_left b];exact a);grind
theorem W3.oc(h:W3 v p):mq v p.fb 3 SN SL (SY p) (dj p) (aX p) dt where
 row i a:=by
  rcases (by omega:i=0\/i=1\/i=2)with rfl | rfl | rfl
  ·exact nM (l1:= []) (l2:= [_,_,_,_]) h.fs R
  ·exact nM (l1:= [_,_]) (l2:= [_,_]) h.fs R
  ·exact nM (l1:= [_,_,_,_]) (l2:= []) h.fs R
 fin i a:=by
  rcases (by omega:i=0\/i=1\/i=2)with rfl | rfl | rfl
  ·exact nD
  ·exact nD
  ·exact KS
 gain i a:=by
  rcases (by omega:i=0\/i=1\/i=2)with rfl | rfl | rfl
  ·exact rG
  ·exact rG
  ·exact Oz
 secs i a:=by
  rcases (by omega:i=0\/i=1\/i=2)with rfl | rfl | rfl
  ·exact h.s0
  ·exact h.s1
  ·exact ⟨none,0,R,λi a=>absurd a (B6 _)⟩
 few i a:=by
  rcases (by omega:i=0\/i=1\/i=2)with rfl | rfl | rfl
  ·have:=h.l0;show p.k0<=16;omega
  ·have:=h.l1;show p.k1<=16;omega
  ·exact H5 _
theorem Ko:Try.f16.body=S Nc:=Zx
theorem Kq:Try.f17.body=S ME:=Zx
noncomputable def GG:Array E3:=match gY with | .seq (.region _ o _) _=>o | _=> #[]
noncomputable def dz:r3:=match gY with | .seq _ c=>c | _=> .skip
noncomputable def Gs:Array E3:=match dz with | .seq (.region _ o _) _=>o | _=> #[]
noncomputable def dv:r3:=match dz with | .seq _ c=>c | _=> .skip
theorem QF:gY= .seq (.region 16 GG false) (.seq (.region 17 Gs false) dv):=by rfl
theorem Jz:dz= .seq (.region 17 Gs false) dv:=by rfl
section
variable {ρ:aU}
theorem Le (o:fT ρ)(c:At (E0 e) ρ v F bO w)(M:aB ρ (dq u) y)(i:M3 u p)(J:W3 v p)
  (N: ∀x q r Z w' y' K b,x.lq e->Ext ρ q->At (E0 x) q r Z bO w'->aA v r->dy r b p.m (Yp (dj p) dt (aX p) p.X 3)->M3 K p->K 23= H6 (some ⟨b,0,none⟩) p.m p.m->K 24= .int .i64 0->aB q (dq K) y'->cO a x Z (G (ak 3 y' [.code dz]) l) w'):
  cO a e F (G (ak 3 y [.code (.seq (.region 16 GG false) dz)]) l) w:=by
 have L:cut GG 0 2=cut GG 0 2:=rfl;conv at L=>rhs;unfold cut GG gY iv iu gX T9 T8 T7 T6 T5 T3;simp only[Try.f3,A5,r5,A6]
 have j:cut GG 3 5=cut GG 3 5:=rfl;conv at j=>rhs;unfold cut GG gY iv iu gX T9 T8 T7 T6 T5 T3;simp only[Try.f3,C9,A5,r5,A6]
 refine aa.ah c λw c=> ?_;refine aa.aC c λw c=> ?_;rw[show A3 GG.size=r7 0 2 ++ (2::(r7 3 5 ++ [])) by kernel_rfl];refine uV (Q:=λO r=>O=dq (up u [(159,H6 (some ⟨p.fb,0,none⟩) 3 3),(160,.slice p.ad p.m p.c),(11,.slice p.ad p.m p.c),(14,H6 (some ⟨p.fb,0,none⟩) 3 3)])/\r.heap=v.heap) 0 2 Zx Zx Zx YU YU c M (λtp=> ?_) ?_
 ·rw[L,bf u,i.eX,i.gN];clear c M i J N o L j;go_wp2
  exact ⟨Zx,R⟩
 rintro P x1 y1 v1 w1 F1 A ⟨rfl,m⟩ c k;have s:=aA.heap m;have t:=J.av s;refine aa.go c YR (λ_=>fM R R R Try.func16 Zx Ko) λw c=> ?_;have B:aB P #[H6 (some ⟨p.fb,0,none⟩) 3 3,.slice p.ad p.m p.c] ((#[D1 159,.tmp 160]:Array z9).map (s6 ⟨y1,[]⟩)):=rf (k.fr 159 YQ R) (k.fr 160 YQ R);refine DD (o.ext A) t.oc t.list (by have:=J.pX;omega) YQ ?_ c B;intro x T v2 F2 w2 b z V C c D n hz;rw[bu R];have g:=(aB.mono C k).put (d:=some 161) (tO hz (.int .i64 0));change aB T ((dq _).setIfInBounds 161 _) _ at g;rw[oK]at g;have f:M3 (up (up u [(159,H6 (some ⟨p.fb,0,none⟩) 3 3),(160,.slice p.ad p.m p.c),(11,.slice p.ad p.m p.c),(14,H6 (some ⟨p.fb,0,none⟩) 3 3)]) [(161,.tuple #[H6 (some ⟨b,0,none⟩) p.m p.m,.int .i64 0])]) p:=⟨i.s3,i.s4,R,i.fQ,i.fS,R,i.fR⟩;have E:(up (up u [(159,H6 (some ⟨p.fb,0,none⟩) 3 3),(160,.slice p.ad p.m p.c),(11,.slice p.ad p.m p.c),(14,H6 (some ⟨p.fb,0,none⟩) 3 3)]) [(161,.tuple #[H6 (some ⟨b,0,none⟩) p.m p.m,.int .i64 0])]) 161= .tuple #[H6 (some ⟨b,0,none⟩) p.m p.m,.int .i64 0]:=rfl;generalize up (up u [(159,H6 (some ⟨p.fb,0,none⟩) 3 3),(160,.slice p.ad p.m p.c),(11,.slice p.ad p.m p.c),(14,H6 (some ⟨p.fb,0,none⟩) 3 3)]) [(161,.tuple #[H6 (some ⟨b,0,none⟩) p.m p.m,.int .i64 0])]=u2 at g f E;refine uV (Q:=λO r=>O=dq (up u2 [(158,.tuple #[H6 (some ⟨b,0,none⟩) p.m p.m,.int .i64 0]),(162,H6 (some ⟨b,0,none⟩) p.m p.m),(163,.int .i64 0),(23,H6 (some ⟨b,0,none⟩) p.m p.m),(24,.int .i64 0),(161,.tuple #[H6 (some ⟨b,0,none⟩) p.m p.m,.int .i64 0])])/\r.heap=v2.heap) 3 5 Zx Zx Zx YU YU c g (λtp=> ?_) ?_
 ·rw[j,bf u2,E];clear c M i J N o L j k B g f n t s D m;go_wp2
  exact ⟨Zx,R⟩
 rintro W x4 y4 v4 w4 F4 X ⟨rfl,H⟩ c Y;refine aa.aH c λw c=> ?_;have I:=aA.heap H;exact N x W v4 F4 w y4 (up u2 [(158,.tuple #[H6 (some ⟨b,0,none⟩) p.m p.m,.int .i64 0]),(162,H6 (some ⟨b,0,none⟩) p.m p.m),(163,.int .i64 0),(23,H6 (some ⟨b,0,none⟩) p.m p.m),(24,.int .i64 0),(161,.tuple #[H6 (some ⟨b,0,none⟩) p.m p.m,.int .i64 0])]) b V ((A.trans C).trans X) c ((s.trans D).trans I) (n.av I) ⟨f.s3,f.s4,f.eX,f.fQ,f.fS,f.gN,f.fR⟩ R R Y
theorem Lf(q:fT ρ)(c:At (E0 e) ρ v F bO w)(V:aB ρ (dq u) y)(k:M3 u p)(E:W3 v p)(r:u 23= H6 (some ⟨i,0,none⟩) p.m p.m)(s:u 24= .int .i64 0)
  (X: ∀I t x F' w' y' H b,I.lq e->Ext ρ t->At (E0 I) t x F' bO w'->aA v x->dy x b p.m (Zm (dj p) dt (aX p) p.X 3)->M3 H p->H 23= H6 (some ⟨i,0,none⟩) p.m p.m->H 24= .int .i64 0->H 25= H6 (some ⟨b,0,none⟩) p.m p.m->H 26= .int .i64 0->aB t (dq H) y'->cO a I F' (G (ak 3 y' [.code dv]) l) w'):
  cO a e F (G (ak 3 y [.code (.seq (.region 17 Gs false) dv)]) l) w:=by
 have T:cut Gs 0 6=cut Gs 0 6:=rfl;conv at T=>rhs;unfold cut Gs dz gY iv iu gX T9 T8 T7 T6 T5 T3;simp only[Try.f3,A5,r5,A6]
 have m:cut Gs 7 5=cut Gs 7 5:=rfl;conv at m=>rhs;unfold cut Gs dz gY iv iu gX T9 T8 T7 T6 T5 T3;simp only[Try.f3,C9,A5,r5,A6]
 refine aa.ah c λw c=> ?_;refine aa.aC c λw c=> ?_;rw[show A3 Gs.size=r7 0 6 ++ (6::(r7 7 5 ++ [])) by kernel_rfl];have a5:((p.b3:Int)).tmod 8=((p.b3 % 8:Nat):Int):=by rw[Int.tmod_eq_emod_of_nonneg YP];omega
 have a6:IntKind.i64.wrap ((p.b3:Int))=(p.b3:Int):=by rw[C5];have:=E.Kl;omega
 have a7:IntKind.i64.wrap (1 + ((p.b3 % 8:Nat):Int))=((W8 p:Nat):Int):=by rw[C5];unfold W8;omega
 refine uV (Q:=λY x=>Y=dq (up u [(165,H6 (some ⟨p.fb,0,none⟩) 3 3),(166,.slice p.ad p.m p.c),(167,.int .u8 p.b3),(168,.int .i64 p.b3),(169,.int .i64 ((p.b3 % 8:Nat):Int)),(170,.int .i64 (W8 p)),(3,.int .u8 p.b3),(11,.slice p.ad p.m p.c),(14,H6 (some ⟨p.fb,0,none⟩) 3 3)])/\x.heap=v.heap) 0 6 Zx Zx Zx YU YU c V (λtp=> ?_) ?_
 ·rw[T,bf u,k.s3,k.eX,k.gN];clear c V k E X q T m r s;go_wp2
  exact ⟨Zx,R⟩
 rintro Z x1 y1 v1 w1 F1 J ⟨rfl,n⟩ c g;have A:=aA.heap n;have B:=E.av A;refine aa.go c YR (λ_=>fM R R R Try.func17 Zx Kq) λw c=> ?_;have K:aB Z #[H6 (some ⟨p.fb,0,none⟩) 3 3,.slice p.ad p.m p.c,.int .i64 (W8 p)] ((#[D1 165,.tmp 166,.tmp 170]:Array z9).map (s6 ⟨y1,[]⟩)):=FW (g.fr 165 YQ R) (g.fr 166 YQ R) (g.fr 170 YQ R);refine HX (W:=W8 p) (q.ext J) B.oc B.list (by have:=E.pX;omega) E.mc YQ YQ (by unfold W8;omega) (by unfold W8;omega) ?_ c K;intro I a0 v2 F2 w2 b z a1 L c M o hz;rw[bu R];have j:=(aB.mono L g).put (d:=some 171) (tO hz (.int .i64 0));change aB a0 ((dq _).setIfInBounds 171 _) _ at j;rw[oK]at j;have f:M3 (up (up u [(165,H6 (some ⟨p.fb,0,none⟩) 3 3),(166,.slice p.ad p.m p.c),(167,.int .u8 p.b3),(168,.int .i64 p.b3),(169,.int .i64 ((p.b3 % 8:Nat):Int)),(170,.int .i64 (W8 p)),(3,.int .u8 p.b3),(11,.slice p.ad p.m p.c),(14,H6 (some ⟨p.fb,0,none⟩) 3 3)]) [(171,.tuple #[H6 (some ⟨b,0,none⟩) p.m p.m,.int .i64 0])]) p:=⟨R,k.s4,R,k.fQ,k.fS,R,k.fR⟩;have C:(up (up u [(165,H6 (some ⟨p.fb,0,none⟩) 3 3),(166,.slice p.ad p.m p.c),(167,.int .u8 p.b3),(168,.int .i64 p.b3),(169,.int .i64 ((p.b3 % 8:Nat):Int)),(170,.int .i64 (W8 p)),(3,.int .u8 p.b3),(11,.slice p.ad p.m p.c),(14,H6 (some ⟨p.fb,0,none⟩) 3 3)]) [(171,.tuple #[H6 (some ⟨b,0,none⟩) p.m p.m,.int .i64 0])]) 23= H6 (some ⟨i,0,none⟩) p.m p.m:=r;have D:(up (up u [(165,H6 (some ⟨p.fb,0,none⟩) 3 3),(166,.slice p.ad p.m p.c),(167,.int .u8 p.b3),(168,.int .i64 p.b3),(169,.int .i64 ((p.b3 % 8:Nat):Int)),(170,.int .i64 (W8 p)),(3,.int .u8 p.b3),(11,.slice p.ad p.m p.c),(14,H6 (some ⟨p.fb,0,none⟩) 3 3)]) [(171,.tuple #[H6 (some ⟨b,0,none⟩) p.m p.m,.int .i64 0])]) 24= .int .i64 0:=s;have N:(up (up u [(165,H6 (some ⟨p.fb,0,none⟩) 3 3),(166,.slice p.ad p.m p.c),(167,.int .u8 p.b3),(168,.int .i64 p.b3),(169,.int .i64 ((p.b3 % 8:Nat):Int)),(170,.int .i64 (W8 p)),(3,.int .u8 p.b3),(11,.slice p.ad p.m p.c),(14,H6 (some ⟨p.fb,0,none⟩) 3 3)]) [(171,.tuple #[H6 (some ⟨b,0,none⟩) p.m p.m,.int .i64 0])]) 171= .tuple #[H6 (some ⟨b,0,none⟩) p.m p.m,.int .i64 0]:=rfl;generalize up (up u [(165,H6 (some ⟨p.fb,0,none⟩) 3 3),(166,.slice p.ad p.m p.c),(167,.int .u8 p.b3),(168,.int .i64 p.b3),(169,.int .i64 ((p.b3 % 8:Nat):Int)),(170,.int .i64 (W8 p)),(3,.int .u8 p.b3),(11,.slice p.ad p.m p.c),(14,H6 (some ⟨p.fb,0,none⟩) 3 3)]) [(171,.tuple #[H6 (some ⟨b,0,none⟩) p.m p.m,.int .i64 0])]=u2 at j f N C D;refine uV (Q:=λY x=>Y=dq (up u2 [(164,.tuple #[H6 (some ⟨b,0,none⟩) p.m p.m,.int .i64 0]),(172,H6 (some ⟨b,0,none⟩) p.m p.m),(173,.int .i64 0),(25,H6 (some ⟨b,0,none⟩) p.m p.m),(26,.int .i64 0),(171,.tuple #[H6 (some ⟨b,0,none⟩) p.m p.m,.int .i64 0])])/\x.heap=v2.heap) 7 5 Zx Zx Zx YU YU c j (λtp=> ?_) ?_
 ·rw[m,bf u2,N];clear c V k E X q T m g K j f o B A M n C D r s;go_wp2
  exact ⟨Zx,R⟩
 rintro a2 x4 y4 v4 w4 F4 a3 ⟨rfl,O⟩ c a4;refine aa.aH c λw c=> ?_;have P:=aA.heap O;exact X I a2 v4 F4 w y4 (up u2 [(164,.tuple #[H6 (some ⟨b,0,none⟩) p.m p.m,.int .i64 0]),(172,H6 (some ⟨b,0,none⟩) p.m p.m),(173,.int .i64 0),(25,H6 (some ⟨b,0,none⟩) p.m p.m),(26,.int .i64 0),(171,.tuple #[H6 (some ⟨b,0,none⟩) p.m p.m,.int .i64 0])]) b a1 ((J.trans L).trans a3) c ((A.trans M).trans P) (o.av P) ⟨f.s3,f.s4,f.eX,f.fQ,f.fS,f.gN,f.fR⟩ C D R R a4
end
noncomputable def Nf:r3:=match dv with | .seq c _=>c | _=> .skip
noncomputable def dW:r3:=match dv with | .seq _ c=>c | _=> .skip
noncomputable def Ng:r3:=match dW with | .seq c _=>c | _=> .skip
noncomputable def ed:r3:=match dW with | .seq _ c=>c | _=> .skip
noncomputable def Nh:r3:=match ed with | .seq c _=>c | _=> .skip
noncomputable def ek:r3:=match ed with | .seq _ c=>c | _=> .skip
noncomputable def Ni:r3:=match ek with | .seq c _=>c | _=> .skip
noncomputable def dX:r3:=match ek with | .seq _ c=>c | _=> .skip
theorem Rf (b:M3 u p)(c:u 23= H6 (S ⟨i,0,none⟩) p.m p.m)(d:u 24= I2 I3 0)(f:u 25= H6 (S ⟨k,0,none⟩) p.m p.m)(g:u 26= I2 I3 0):
  Nf.wp Try.prog (λe a h=>e= .normal/\a.defers= []/\(Fr p [(23,H6 (S ⟨i,0,none⟩) p.m p.m),(25,H6 (S ⟨k,0,none⟩) p.m p.m)] a.tmps/\h.heap=v.heap)) ⟨dq u,[]⟩ v:=by
 have e:Nf=Nf:=rfl;conv at e=>rhs;unfold Nf dv dz gY iv iu gX T9 T8 T7 T6 T5 T3;simp only[Try.f3]
 rw[e,bf u,b.s3,b.s4,b.eX,b.fQ,b.fS,b.gN,b.fR,c,d,f,g];clear e b c d f g;unfold ptr;go_wp2
 exact ⟨_,aM R,⟨R,R,R,R,R,R,R⟩,R,R,trivial⟩
theorem Rg (b:M3 u p)(c:u 23= H6 (S ⟨i,0,none⟩) p.m p.m)(d:u 25= H6 (S ⟨k,0,none⟩) p.m p.m):
  Ng.wp Try.prog (λe a f=>e= .normal/\a.defers= []/\(Fr p [(23,H6 (S ⟨i,0,none⟩) p.m p.m),(25,H6 (S ⟨k,0,none⟩) p.m p.m),(27,ptr v.heap.size)] a.tmps/\f.heap=v.heap.push (.cells #[.pointer none,.pointer none,.pointer none] 61))) ⟨dq u,[]⟩ v:=by
 have e:Ng=Ng:=rfl;conv at e=>rhs;unfold Ng dW dv dz gY iv iu gX T9 T8 T7 T6 T5 T3;simp only[Try.f3]
 rw[e,bf u,b.s3,b.s4,b.eX,b.fQ,b.fS,b.gN,b.fR,c,d];clear e b c d;unfold ptr;go_wp2
 exact ⟨⟨_,aM R,⟨R,R,R,R,R,R,R⟩,R,R,R,trivial⟩,R⟩
theorem Rh(b:M3 u p)(c:u 23= H6 (S ⟨i,0,none⟩) p.m p.m)(d:u 25= H6 (S ⟨k,0,none⟩) p.m p.m)(f:u 27=ptr n):
  Nh.wp Try.prog (λe a g=>e= .normal/\a.defers= []/\(Fr p [(23,H6 (S ⟨i,0,none⟩) p.m p.m),(25,H6 (S ⟨k,0,none⟩) p.m p.m),(27,ptr n),(28,ptr v.heap.size)] a.tmps/\g.heap=v.heap.push (.cells #[.pointer none,.pointer none,.pointer none] 61))) ⟨dq u,[]⟩ v:=by
 have e:Nh=Nh:=rfl;conv at e=>rhs;unfold Nh ed dW dv dz gY iv iu gX T9 T8 T7 T6 T5 T3;simp only[Try.f3]
 rw[e,bf u,b.s3,b.s4,b.eX,b.fQ,b.fS,b.gN,b.fR,c,d,f];clear e b c d f;unfold ptr;go_wp2
 exact ⟨⟨_,aM R,⟨R,R,R,R,R,R,R⟩,R,R,R,R,trivial⟩,R⟩
theorem Ri(b:M3 u p)(c:u 23= H6 (S ⟨i,0,none⟩) p.m p.m)(d:u 25= H6 (S ⟨k,0,none⟩) p.m p.m)(f:u 27=ptr n)(g:u 28=ptr j):
  Ni.wp Try.prog (λe a h=>e= .normal/\a.defers= []/\(Fr p [(23,H6 (S ⟨i,0,none⟩) p.m p.m),(25,H6 (S ⟨k,0,none⟩) p.m p.m),(27,ptr n),(28,ptr j),(29,ptr v.heap.size)] a.tmps/\h.heap=v.heap.push (.cells #[.pointer none,.pointer none,.pointer none] 61))) ⟨dq u,[]⟩ v:=by
 have e:Ni=Ni:=rfl;conv at e=>rhs;unfold Ni ek ed dW dv dz gY iv iu gX T9 T8 T7 T6 T5 T3;simp only[Try.f3]
 rw[e,bf u,b.s3,b.s4,b.eX,b.fQ,b.fS,b.gN,b.fR,c,d,f,g];clear e b c d f g;unfold ptr;go_wp2
 exact ⟨⟨_,aM R,⟨R,R,R,R,R,R,R⟩,R,R,R,R,R,trivial⟩,R⟩
noncomputable def wW:r3:=match dX with | .seq (.seq _ (.block _ (.loop c))) _=>c | _=> .skip
noncomputable def Nl:r3:=match wW with | .seq _ (.seq (.block _ (.seq c _)) _)=>c | _=> .skip
noncomputable def Nm:r3:=match wW with | .seq _ (.seq (.block _ (.seq _ (.seq c _))) _)=>c | _=> .skip
noncomputable def Nn:r3:=match wW with | .seq _ (.seq (.block _ (.seq _ (.seq _ c))) _)=>c | _=> .skip
def Ax (v:World)(b:Nat):Prop:= ∃c e,v.heap[b]? =S (.cells c e (0,0))/\c.size=3
theorem Ax.at{b:Nat}(h:Ax v b)(k:ar v w)(i:Nat)(d:i<3):(∃z,w.cell? ⟨b,i,none⟩=S z)/\w.frozen? ⟨b,i,none⟩=false:=by
 obtain ⟨c,e,a,f⟩:=h;have g:=(k.2 b (aG a)).trans a;constructor
 ·unfold u0;simp_all
 ·unfold G7;grind
def xe (p:P3)(l:List (Nat×q6))(v:World)(b i:Nat)(x:Array q6)(c:World):Prop:= ∃B L a,Fr p l x/\v.heap.size<=B/\v.heap.size<=L/\aF a B L (dj p i) (dt i) (aX p i) aI/\ar v a/\c.heap=(a.setCell ⟨b,i,none⟩ (ptr B)).heap
theorem Rm(l:i<3)(g:M3 u p)(o:u 23= H6 (S ⟨k,0,none⟩) p.m p.m)(q:u 25= H6 (S ⟨n,0,none⟩) p.m p.m)(r:u 27=ptr j)(s:u 28=ptr N)(t:u 29=ptr m)(x:u 30= I2 I3 i)(E:W3 v p)(F:Ax v j):
  Nl.wp Try.prog (λe a d=>e= .normal/\a.defers= []/\xe p [(23,H6 (S ⟨k,0,none⟩) p.m p.m),(25,H6 (S ⟨n,0,none⟩) p.m p.m),(27,ptr j),(28,ptr N),(29,ptr m),(30,I2 I3 i)] v j i a.tmps d) ⟨dq u,[]⟩ v:=by
 have e:Nl=Nl:=rfl;conv at e=>rhs;unfold Nl wW dX ek ed dW dv dz gY iv iu gX T9 T8 T7 T6 T5 T3;simp only[Try.f3]
 rw[e,bf u,g.s3,g.s4,g.eX,g.fQ,g.fS,g.gN,g.fR,o,q,r,s,t,x];have D:=au F;have h:=E.oc;have f:=au (λ(i:Nat)(l:i<3)=>Ey (w:=v) (h.fin i l) (h.gain i l) (h.secs i l) (h.few i l));have b:=h.row;clear e g o q r s t x E h F;unfold ptr;rcases (by omega:i=0\/i=1\/i=2)with rfl | rfl | rfl
 ·have G:v.cell? ⟨p.fb,0,none⟩=S (I0 I1 4604930618986332160 4602678819172646912):=b 0 YQ 0 _ R;have H:v.cell? ⟨p.fb,1,none⟩=S (.slice p.p0 p.k0 p.q0):=b 0 YQ 1 _ R;have f:Hid (E6 Try.prog 9 #[.agg #[I0 I1 4604930618986332160 4602678819172646912,.slice p.p0 p.k0 p.q0]] v λe d=> ∃B L,e= .returned (.tuple #[I4 (S ⟨B,0,none⟩),I2 I3 0])/\v.heap.size<=B/\v.heap.size<=L/\aF d B L (dj p 0) (dt 0) (aX p 0) aI/\Below v.heap.size v d):=au (ae f 0 YQ);clear b;go_wp2_with (first | (go_at_call 9;refine (ae f).mono ?_;rintro e y ⟨B,L,rfl,z,A,C,c⟩;obtain ⟨⟨I,J⟩,K⟩:=(ae D).at (ar.ba c (Nat.le_refl _)) 0 YQ) | fail)
  unfold xe;exact ⟨B,L,y,⟨_,aM R,⟨R,R,R,R,R,R,R⟩,R,R,R,R,R,R,trivial⟩,z,A,C,ar.ba c (Nat.le_refl _),R⟩
 ·have G:v.cell? ⟨p.fb,2,none⟩=S (I0 I1 4604930618986332160 4602678819172646912):=b 1 YQ 0 _ R;have H:v.cell? ⟨p.fb,3,none⟩=S (.slice p.p1 p.k1 p.q1):=b 1 YQ 1 _ R;have f:Hid (E6 Try.prog 9 #[.agg #[I0 I1 4604930618986332160 4602678819172646912,.slice p.p1 p.k1 p.q1]] v λe d=> ∃B L,e= .returned (.tuple #[I4 (S ⟨B,0,none⟩),I2 I3 0])/\v.heap.size<=B/\v.heap.size<=L/\aF d B L (dj p 1) (dt 1) (aX p 1) aI/\Below v.heap.size v d):=au (ae f 1 YQ);clear b;go_wp2_with (first | (go_at_call 9;refine (ae f).mono ?_;rintro e y ⟨B,L,rfl,z,A,C,c⟩;obtain ⟨⟨I,J⟩,K⟩:=(ae D).at (ar.ba c (Nat.le_refl _)) 1 YQ) | fail)
  unfold xe;exact ⟨B,L,y,⟨_,aM R,⟨R,R,R,R,R,R,R⟩,R,R,R,R,R,R,trivial⟩,z,A,C,ar.ba c (Nat.le_refl _),R⟩
 ·have G:v.cell? ⟨p.fb,4,none⟩=S (I0 I1 0 4607182418800017408):=b 2 YQ 0 _ R;have H:v.cell? ⟨p.fb,5,none⟩=S (.slice none 0 0):=b 2 YQ 1 _ R;have f:Hid (E6 Try.prog 9 #[.agg #[I0 I1 0 4607182418800017408,.slice none 0 0]] v λe d=> ∃B L,e= .returned (.tuple #[I4 (S ⟨B,0,none⟩),I2 I3 0])/\v.heap.size<=B/\v.heap.size<=L/\aF d B L (dj p 2) (dt 2) (aX p 2) aI/\Below v.heap.size v d):=au (ae f 2 YQ);clear b;go_wp2_with (first | (go_at_call 9;refine (ae f).mono ?_;rintro e y ⟨B,L,rfl,z,A,C,c⟩;obtain ⟨⟨I,J⟩,K⟩:=(ae D).at (ar.ba c (Nat.le_refl _)) 2 YQ) | fail)
  unfold xe;exact ⟨B,L,y,⟨_,aM R,⟨R,R,R,R,R,R,R⟩,R,R,R,R,R,R,trivial⟩,z,A,C,ar.ba c (Nat.le_refl _),R⟩
theorem Rn(l:i<3)(g:M3 u p)(o:u 23= H6 (S ⟨k,0,none⟩) p.m p.m)(q:u 25= H6 (S ⟨n,0,none⟩) p.m p.m)(r:u 27=ptr j)(s:u 28=ptr N)(t:u 29=ptr m)(x:u 30= I2 I3 i)(E:W3 v p)(F:Ax v N):
  Nm.wp Try.prog (λe a d=>e= .normal/\a.defers= []/\xe p [(23,H6 (S ⟨k,0,none⟩) p.m p.m),(25,H6 (S ⟨n,0,none⟩) p.m p.m),(27,ptr j),(28,ptr N),(29,ptr m),(30,I2 I3 i)] v N i a.tmps d) ⟨dq u,[]⟩ v:=by
 have e:Nm=Nm:=rfl;conv at e=>rhs;unfold Nm wW dX ek ed dW dv dz gY iv iu gX T9 T8 T7 T6 T5 T3;simp only[Try.f3]
 rw[e,bf u,g.s3,g.s4,g.eX,g.fQ,g.fS,g.gN,g.fR,o,q,r,s,t,x];have D:=au F;have h:=E.oc;have f:=au (λ(i:Nat)(l:i<3)=>Ey (w:=v) (h.fin i l) (h.gain i l) (h.secs i l) (h.few i l));have b:=h.row;clear e g o q r s t x E h F;unfold ptr;rcases (by omega:i=0\/i=1\/i=2)with rfl | rfl | rfl
 ·have G:v.cell? ⟨p.fb,0,none⟩=S (I0 I1 4604930618986332160 4602678819172646912):=b 0 YQ 0 _ R;have H:v.cell? ⟨p.fb,1,none⟩=S (.slice p.p0 p.k0 p.q0):=b 0 YQ 1 _ R;have f:Hid (E6 Try.prog 9 #[.agg #[I0 I1 4604930618986332160 4602678819172646912,.slice p.p0 p.k0 p.q0]] v λe d=> ∃B L,e= .returned (.tuple #[I4 (S ⟨B,0,none⟩),I2 I3 0])/\v.heap.size<=B/\v.heap.size<=L/\aF d B L (dj p 0) (dt 0) (aX p 0) aI/\Below v.heap.size v d):=au (ae f 0 YQ);clear b;go_wp2_with (first | (go_at_call 9;refine (ae f).mono ?_;rintro e y ⟨B,L,rfl,z,A,C,c⟩;obtain ⟨⟨I,J⟩,K⟩:=(ae D).at (ar.ba c (Nat.le_refl _)) 0 YQ) | fail)
  unfold xe;exact ⟨B,L,y,⟨_,aM R,⟨R,R,R,R,R,R,R⟩,R,R,R,R,R,R,trivial⟩,z,A,C,ar.ba c (Nat.le_refl _),R⟩
 ·have G:v.cell? ⟨p.fb,2,none⟩=S (I0 I1 4604930618986332160 4602678819172646912):=b 1 YQ 0 _ R;have H:v.cell? ⟨p.fb,3,none⟩=S (.slice p.p1 p.k1 p.q1):=b 1 YQ 1 _ R;have f:Hid (E6 Try.prog 9 #[.agg #[I0 I1 4604930618986332160 4602678819172646912,.slice p.p1 p.k1 p.q1]] v λe d=> ∃B L,e= .returned (.tuple #[I4 (S ⟨B,0,none⟩),I2 I3 0])/\v.heap.size<=B/\v.heap.size<=L/\aF d B L (dj p 1) (dt 1) (aX p 1) aI/\Below v.heap.size v d):=au (ae f 1 YQ);clear b;go_wp2_with (first | (go_at_call 9;refine (ae f).mono ?_;rintro e y ⟨B,L,rfl,z,A,C,c⟩;obtain ⟨⟨I,J⟩,K⟩:=(ae D).at (ar.ba c (Nat.le_refl _)) 1 YQ) | fail)
  unfold xe;exact ⟨B,L,y,⟨_,aM R,⟨R,R,R,R,R,R,R⟩,R,R,R,R,R,R,trivial⟩,z,A,C,ar.ba c (Nat.le_refl _),R⟩
 ·have G:v.cell? ⟨p.fb,4,none⟩=S (I0 I1 0 4607182418800017408):=b 2 YQ 0 _ R;have H:v.cell? ⟨p.fb,5,none⟩=S (.slice none 0 0):=b 2 YQ 1 _ R;have f:Hid (E6 Try.prog 9 #[.agg #[I0 I1 0 4607182418800017408,.slice none 0 0]] v λe d=> ∃B L,e= .returned (.tuple #[I4 (S ⟨B,0,none⟩),I2 I3 0])/\v.heap.size<=B/\v.heap.size<=L/\aF d B L (dj p 2) (dt 2) (aX p 2) aI/\Below v.heap.size v d):=au (ae f 2 YQ);clear b;go_wp2_with (first | (go_at_call 9;refine (ae f).mono ?_;rintro e y ⟨B,L,rfl,z,A,C,c⟩;obtain ⟨⟨I,J⟩,K⟩:=(ae D).at (ar.ba c (Nat.le_refl _)) 2 YQ) | fail)
  unfold xe;exact ⟨B,L,y,⟨_,aM R,⟨R,R,R,R,R,R,R⟩,R,R,R,R,R,R,trivial⟩,z,A,C,ar.ba c (Nat.le_refl _),R⟩
theorem Ro(l:i<3)(g:M3 u p)(o:u 23= H6 (S ⟨k,0,none⟩) p.m p.m)(q:u 25= H6 (S ⟨n,0,none⟩) p.m p.m)(r:u 27=ptr j)(s:u 28=ptr N)(t:u 29=ptr m)(x:u 30= I2 I3 i)(E:W3 v p)(F:Ax v m):
  Nn.wp Try.prog (λe a d=>e= .normal/\a.defers= []/\xe p [(23,H6 (S ⟨k,0,none⟩) p.m p.m),(25,H6 (S ⟨n,0,none⟩) p.m p.m),(27,ptr j),(28,ptr N),(29,ptr m),(30,I2 I3 i)] v m i a.tmps d) ⟨dq u,[]⟩ v:=by
 have e:Nn=Nn:=rfl;conv at e=>rhs;unfold Nn wW dX ek ed dW dv dz gY iv iu gX T9 T8 T7 T6 T5 T3;simp only[Try.f3]
 rw[e,bf u,g.s3,g.s4,g.eX,g.fQ,g.fS,g.gN,g.fR,o,q,r,s,t,x];have D:=au F;have h:=E.oc;have f:=au (λ(i:Nat)(l:i<3)=>Ey (w:=v) (h.fin i l) (h.gain i l) (h.secs i l) (h.few i l));have b:=h.row;clear e g o q r s t x E h F;unfold ptr;rcases (by omega:i=0\/i=1\/i=2)with rfl | rfl | rfl
 ·have G:v.cell? ⟨p.fb,0,none⟩=S (I0 I1 4604930618986332160 4602678819172646912):=b 0 YQ 0 _ R;have H:v.cell? ⟨p.fb,1,none⟩=S (.slice p.p0 p.k0 p.q0):=b 0 YQ 1 _ R;have f:Hid (E6 Try.prog 9 #[.agg #[I0 I1 4604930618986332160 4602678819172646912,.slice p.p0 p.k0 p.q0]] v λe d=> ∃B L,e= .returned (.tuple #[I4 (S ⟨B,0,none⟩),I2 I3 0])/\v.heap.size<=B/\v.heap.size<=L/\aF d B L (dj p 0) (dt 0) (aX p 0) aI/\Below v.heap.size v d):=au (ae f 0 YQ);clear b;go_wp2_with (first | (go_at_call 9;refine (ae f).mono ?_;rintro e y ⟨B,L,rfl,z,A,C,c⟩;obtain ⟨⟨I,J⟩,K⟩:=(ae D).at (ar.ba c (Nat.le_refl _)) 0 YQ) | fail)
  unfold xe;exact ⟨B,L,y,⟨_,aM R,⟨R,R,R,R,R,R,R⟩,R,R,R,R,R,R,trivial⟩,z,A,C,ar.ba c (Nat.le_refl _),R⟩
 ·have G:v.cell? ⟨p.fb,2,none⟩=S (I0 I1 4604930618986332160 4602678819172646912):=b 1 YQ 0 _ R;have H:v.cell? ⟨p.fb,3,none⟩=S (.slice p.p1 p.k1 p.q1):=b 1 YQ 1 _ R;have f:Hid (E6 Try.prog 9 #[.agg #[I0 I1 4604930618986332160 4602678819172646912,.slice p.p1 p.k1 p.q1]] v λe d=> ∃B L,e= .returned (.tuple #[I4 (S ⟨B,0,none⟩),I2 I3 0])/\v.heap.size<=B/\v.heap.size<=L/\aF d B L (dj p 1) (dt 1) (aX p 1) aI/\Below v.heap.size v d):=au (ae f 1 YQ);clear b;go_wp2_with (first | (go_at_call 9;refine (ae f).mono ?_;rintro e y ⟨B,L,rfl,z,A,C,c⟩;obtain ⟨⟨I,J⟩,K⟩:=(ae D).at (ar.ba c (Nat.le_refl _)) 1 YQ) | fail)
  unfold xe;exact ⟨B,L,y,⟨_,aM R,⟨R,R,R,R,R,R,R⟩,R,R,R,R,R,R,trivial⟩,z,A,C,ar.ba c (Nat.le_refl _),R⟩
 ·have G:v.cell? ⟨p.fb,4,none⟩=S (I0 I1 0 4607182418800017408):=b 2 YQ 0 _ R;have H:v.cell? ⟨p.fb,5,none⟩=S (.slice none 0 0):=b 2 YQ 1 _ R;have f:Hid (E6 Try.prog 9 #[.agg #[I0 I1 0 4607182418800017408,.slice none 0 0]] v λe d=> ∃B L,e= .returned (.tuple #[I4 (S ⟨B,0,none⟩),I2 I3 0])/\v.heap.size<=B/\v.heap.size<=L/\aF d B L (dj p 2) (dt 2) (aX p 2) aI/\Below v.heap.size v d):=au (ae f 2 YQ);clear b;go_wp2_with (first | (go_at_call 9;refine (ae f).mono ?_;rintro e y ⟨B,L,rfl,z,A,C,c⟩;obtain ⟨⟨I,J⟩,K⟩:=(ae D).at (ar.ba c (Nat.le_refl _)) 2 YQ) | fail)
  unfold xe;exact ⟨B,L,y,⟨_,aM R,⟨R,R,R,R,R,R,R⟩,R,R,R,R,R,R,trivial⟩,z,A,C,ar.ba c (Nat.le_refl _),R⟩
structure NJ (v:World)(p:P3)(q:Nat)(B L:Nat->Nat)(st:Nat->Nat->C2×C2)(N:Nat):Prop where
 dp: ∀k,k<q->aF v (B k) (L k) (dj p (k / 3)) (dt (k / 3)) (aX p (k / 3)) (st k)
 low: ∀k,k<q->N<=B k/\N<=L k
 lN: ∀k j,k<q->j<q->k≠j->L k≠L j
 mH: ∀k j,k<q->j<q->L k≠B j
theorem aF.Lw{G:C2}{a:Nat->dM}(h:aF v i L n G a g)(k:ar v w):aF w i L n G a g:=h.mv (λ_ _ b=>k.cell b) (λ_=>k.2 _ h.lt.2.1) k.1
structure L0 (vb v:World)(p:P3)(N:Nat)(bt:Nat->Nat)(q:Nat)(B L:Nat->Nat):Prop where
 lo:ar vb v
 QJ: ∀t,t<3->vb.heap.size<=bt t
 vG:N<=v.heap.size
 Gx: ∀t,t<3->bt t<N
 Qa: ∀t t',t<3->t'<3->t≠t'->bt t≠bt t'
 blk: ∀t,t<3->Ax v (bt t)
 arr: ∀t j,t<3->3 * j + t<q->v.cell? ⟨bt t,j,none⟩=S (ptr (B (3 * j + t)))
 nine:NJ v p q B L (λ_=>aI) N
theorem L0.heap {vb v v':World}{p:P3}{N:Nat}{b:Nat->Nat}{q:Nat}{B L:Nat->Nat}(h:L0 vb v p N b q B L)(e:v'.heap=v.heap):L0 vb v' p N b q B L:=⟨h.lo.trans (ar.heap e),h.QJ,by rw[e];exact h.vG,h.Gx,h.Qa,λt a=>(by obtain ⟨c,d,l,f⟩:=h.blk t a;exact ⟨c,d,YS,f⟩),λt j a g=>(aA.heap e).2 _ _ (h.arr t j a g),⟨λk i=>(h.nine.dp k i).heap e,h.nine.low,h.nine.lN,h.nine.mH⟩⟩
theorem VR.mF{b:Bool}(h:VR d (.bool b) z):z= .bool b:=by cases h;rfl
theorem L0.step {y z:World}{t:Nat}{M:Nat->Nat}(h:L0 I v p N E n B M)(hq:n=3 * i + t)(A:t<3)(hi:i<3)(hb:v.heap.size<=m)(hl:v.heap.size<=L)(O:aF y m L (dj p i) (dt i) (aX p i) aI)(b:ar v y)(f:z.heap=(y.setCell ⟨E t,i,none⟩ (ptr m)).heap): ∃X Y,L0 I z p N E (n + 1) X Y:=by
 have Z:=h.Gx t A;have hN:=h.vG;have a0:z.heap.size=y.heap.size:=by rw[f];simp[World.setCell]
 have g: ∀x,x≠E t->z.heap[x]? =y.heap[x]? :=λx D=>by rw[f,heap_set,if_neg (Ne.symm D)]
 have P:=b.1;have Q:=h.lo.1;obtain ⟨c,e,T,h2⟩:=h.blk t A;have h3:=(b.2 _ (aG T)).trans T;have h4:z.heap[E t]? =S (.cells (c.setIfInBounds i (ptr m)) e (0,0)):=by rw[f,heap_set,if_pos R,h3];rfl
 have F:n / 3=i:=YP;have G: ∀ {a u},v.cell? a=S u->a.block≠E t->z.cell? a=S u:=λ{a u} hu ha=>by rw[A7 (w:=y) (g _ ha)];exact b.cell hu
 refine ⟨λk=>if k=n then m else B k,λk=>if k=n then L else M k,⟨YP,λx D=> ?_⟩,h.QJ,YP,h.Gx,h.Qa,λr l=> ?_,λr j l V=> ?_,⟨λk H=> ?_,λk H=> ?_,λk j H V J=> ?_,λk j H V=> ?_⟩⟩
 ·have:=h.QJ t A;rw[g x YP,b.2 x YP];exact h.lo.2 x D
 ·by_cases d:r=t
  ·subst d;exact ⟨_,_,h4,YS⟩
  ·obtain ⟨c',K,W,q2⟩:=h.blk r l;exact ⟨c',K,by rw[g _ (h.Qa r t l A d),b.2 _ (aG W)];exact W,q2⟩
 ·by_cases C:3 * j + r=n
  ·have o:r=t:=by omega
   have q:j=i:=YP;subst o;subst q;rw[if_pos C];unfold u0;grind
  ·rw[if_neg C];have s:=h.arr r j l YP;by_cases d:r=t
   ·subst d;have a1:j≠i:=YP;have:=b.cell s;unfold u0 at this ⊢;grind
   ·exact G s (h.Qa r t l A d)
 ·by_cases d:k=n
  ·subst d;rw[if_pos R,if_pos R,F];exact (O.setCell (a:=⟨E t,i,none⟩) YS YS (ptr m)).heap f
  ·rw[if_neg d,if_neg d];have a2:=h.nine.low k YP;exact (((h.nine.dp k YP).Lw b).setCell (a:=⟨E t,i,none⟩) YS YS (ptr m)).heap f
 ·by_cases d:k=n
  ·grind
  ·rw[if_neg d,if_neg d];exact h.nine.low k YP
 ·by_cases o:k=n
  ·rw[if_pos o,if_neg YP];have:=(h.nine.dp j YP).lt.2.1;omega
  ·by_cases q:j=n
   ·rw[if_neg o,if_pos q];have:=(h.nine.dp k YP).lt.2.1;omega
   ·rw[if_neg o,if_neg q];exact h.nine.lN k j YP YP J
 ·by_cases o:k=n
  ·by_cases q:j=n
   ·rw[if_pos o,if_pos q];exact Ne.symm O.lt.2.2
   ·rw[if_pos o,if_neg q];have:=(h.nine.dp j YP).lt.1;omega
  ·by_cases q:j=n
   ·rw[if_neg o,if_pos q];have:=(h.nine.dp k YP).lt.2.1;omega
   ·rw[if_neg o,if_neg q];exact h.nine.mH k j YP YP
noncomputable def GA:r3:=match wW with | .seq (.seq c _) _=>c | _=> .skip
noncomputable def Nk:r3:=match wW with | .seq _ (.seq _ c)=>c | _=> .skip
theorem KL:wW= .seq (.seq GA (.cond (.tmp 181) .skip (.exit 0))) (.seq (.block 1 (.seq Nl (.seq Nm Nn))) Nk):=by rfl
theorem Pv(r:i<3)(b:M3 u p)(c:u 23= H6 (S ⟨k,0,none⟩) p.m p.m)(d:u 25= H6 (S ⟨n,0,none⟩) p.m p.m)(f:u 27=ptr j)(g:u 28=ptr N)(h:u 29=ptr m)(l:u 30= I2 I3 i):
  GA.wp Try.prog (λe a o=>e= .normal/\a.defers= []/\(Fr p [(23,H6 (S ⟨k,0,none⟩) p.m p.m),(25,H6 (S ⟨n,0,none⟩) p.m p.m),(27,ptr j),(28,ptr N),(29,ptr m),(30,I2 I3 i),(181,.bool true)] a.tmps/\o.heap=v.heap)) ⟨dq u,[]⟩ v:=by
 have e:GA=GA:=rfl;conv at e=>rhs;unfold GA wW dX ek ed dW dv dz gY iv iu gX T9 T8 T7 T6 T5 T3;simp only[Try.f3]
 rw[e,bf u,b.s3,b.s4,b.eX,b.fQ,b.fS,b.gN,b.fR,c,d,f,g,h,l];have q:(i:Int)<3:=YP;clear e b c d f g h l;unfold ptr;go_wp2
 exact ⟨_,aM R,⟨R,R,R,R,R,R,R⟩,R,R,R,R,R,R,R,trivial⟩
theorem Pu(o:i=3)(b:M3 u p)(c:u 23= H6 (S ⟨k,0,none⟩) p.m p.m)(d:u 25= H6 (S ⟨n,0,none⟩) p.m p.m)(f:u 27=ptr j)(g:u 28=ptr N)(h:u 29=ptr m)(l:u 30= I2 I3 i):
  GA.wp Try.prog (λe a q=>e= .normal/\a.defers= []/\(Fr p [(23,H6 (S ⟨k,0,none⟩) p.m p.m),(25,H6 (S ⟨n,0,none⟩) p.m p.m),(27,ptr j),(28,ptr N),(29,ptr m),(30,I2 I3 i),(181,.bool false)] a.tmps/\q.heap=v.heap)) ⟨dq u,[]⟩ v:=by
 have e:GA=GA:=rfl;conv at e=>rhs;unfold GA wW dX ek ed dW dv dz gY iv iu gX T9 T8 T7 T6 T5 T3;simp only[Try.f3]
 rw[e,bf u,b.s3,b.s4,b.eX,b.fQ,b.fS,b.gN,b.fR,c,d,f,g,h,l];have r: ¬ (i:Int)<3:=YP;clear e b c d f g h l o;unfold ptr;go_wp2
 exact ⟨_,aM R,⟨R,R,R,R,R,R,R⟩,R,R,R,R,R,R,R,trivial⟩
theorem Rk(s:i<3)(o:L=i + 1)(b:M3 u p)(c:u 23= H6 (S ⟨k,0,none⟩) p.m p.m)(d:u 25= H6 (S ⟨n,0,none⟩) p.m p.m)(f:u 27=ptr j)(g:u 28=ptr N)(h:u 29=ptr m)(l:u 30= I2 I3 i):
  Nk.wp Try.prog (λe a q=>e= .normal/\a.defers= []/\(Fr p [(23,H6 (S ⟨k,0,none⟩) p.m p.m),(25,H6 (S ⟨n,0,none⟩) p.m p.m),(27,ptr j),(28,ptr N),(29,ptr m),(30,I2 I3 L)] a.tmps/\q.heap=v.heap)) ⟨dq u,[]⟩ v:=by
 have e:Nk=Nk:=rfl;conv at e=>rhs;unfold Nk wW dX ek ed dW dv dz gY iv iu gX T9 T8 T7 T6 T5 T3;simp only[Try.f3]
 rw[e,bf u,b.s3,b.s4,b.eX,b.fQ,b.fS,b.gN,b.fR,c,d,f,g,h,l];have r:IntKind.i64.wrap ((i:Int) + 1)=(L:Int):=ZA;clear e b c d f g h l o;unfold ptr;go_wp2
 exact ⟨_,aM R,⟨R,R,R,R,R,R,R⟩,R,R,R,R,R,R,trivial⟩
def AO (a b c:Nat):Nat->Nat
 | 0=>a
 | 1=>b
 | _=>c
section
variable {kk:List Item}{iS:aU}{vb:World}
theorem Li (C:W3 vb p)
  (K: ∀A v F w u y B L,At (E0 e) A v F bO w->Ext iS A->L0 vb v p N (AO n j m) 9 B L->M3 u p->(u 23= H6 (S ⟨i,0,none⟩) p.m p.m/\u 25= H6 (S ⟨k,0,none⟩) p.m p.m/\u 27=ptr n/\u 28=ptr j/\u 29=ptr m)->aB A (dq u) y->cO a e F (G (ak 3 y kk) l) w):
  ∀ (r d:Nat)(A:aU)(v:World)(F:aq)(w:World)(u:Nat->Value)(y:Array Value)(B L:Nat->Nat),d + r=3->At (E0 e) A v F bO w->Ext iS A->L0 vb v p N (AO n j m) (3 * d) B L->M3 u p->(u 23= H6 (S ⟨i,0,none⟩) p.m p.m/\u 25= H6 (S ⟨k,0,none⟩) p.m p.m/\u 27=ptr n/\u 28=ptr j/\u 29=ptr m)->u 30= I2 I3 d->aB A (dq u) y->
   cO a e F (G (ak 3 y (.code wW:: .inLoop wW:: .inBlock 0::kk)) l) w:=by
 intro r;induction r with
 | zero=>intro d A v F w u y B L hi b hE hL hM ⟨D,E,H,I,J⟩ M hv;have c:d=3:=YP;rw[KL];refine aa.ah b λw b=> ?_;refine aa.ah b λw b=> ?_;refine dY (Q:=λg o=>Fr p [(23,H6 (S ⟨i,0,none⟩) p.m p.m),(25,H6 (S ⟨k,0,none⟩) p.m p.m),(27,ptr n),(28,ptr j),(29,ptr m),(30,I2 I3 d),(181,.bool false)] g/\o.heap=v.heap) Zx YU YU b hv (λq=>Pu (v:=aK v q 0) c hM D E H I J M) ?_;rintro a1 x1 y1 v1 w1 F1 O ⟨⟨u1,rfl,P,T,V,W,X,Y,a2,s,_⟩,x⟩ b z;refine aa.go b YR (λ_=>bH ((z.fr 181 YQ s).mF)) λw b=> ?_;simp only[s7, ↓reduceIte];refine aa.go b YR (λ_=>fe R) λw b=> ?_;have f:=hL.heap x;rw[c]at f;exact K a1 v1 F1 w u1 y1 B L b (hE.trans O) f P ⟨T,V,W,X,Y⟩ z
 | succ r ih=>intro d A v F w u y B L hi b hE hL hM ⟨D,E,H,I,J⟩ M hv;have c:d<3:=YP;rw[KL];refine aa.ah b λw b=> ?_;refine aa.ah b λw b=> ?_;refine dY (Q:=λg o=>Fr p [(23,H6 (S ⟨i,0,none⟩) p.m p.m),(25,H6 (S ⟨k,0,none⟩) p.m p.m),(27,ptr n),(28,ptr j),(29,ptr m),(30,I2 I3 d),(181,.bool true)] g/\o.heap=v.heap) Zx YU YU b hv (λq=>Pv (v:=aK v q 0) c hM D E H I J M) ?_;rintro a1 x1 y1 v1 w1 F1 O ⟨⟨u1,rfl,P,T,V,W,X,Y,a2,s,_⟩,x⟩ b z;refine aa.go b YR (λ_=>bH ((z.fr 181 YQ s).mF)) λw b=> ?_;simp only[if_true];refine aa.dh b λw b=> ?_;refine aa.ah b λw b=> ?_;refine aa.aV b λw b=> ?_;refine aa.ah b λw b=> ?_;have f:=hL.heap x;refine dY (Q:=λg o=>xe p [(23,H6 (S ⟨i,0,none⟩) p.m p.m),(25,H6 (S ⟨k,0,none⟩) p.m p.m),(27,ptr n),(28,ptr j),(29,ptr m),(30,I2 I3 d)] v1 n d g o) Zx YU YU b z (λq=>Rm (v:=aK v1 q 0) c P T V W X Y a2 ((C.av f.lo.av).av (aA.heap R)) (f.blk 0 YQ)) ?_;rintro e4 x2 y2 v2 w2 F2 a4 ⟨B2,k2,z2,⟨u2,rfl,a5,a6,a7,a8,a9,b0,b1,_⟩,q1,q2,q3,q4,q5⟩ b b2;obtain ⟨Ba,La,Z⟩:=f.step (t:=0) R YQ c q1 q2 q3 q4 q5;refine aa.ah b λw b=> ?_;refine dY (Q:=λg o=>xe p [(23,H6 (S ⟨i,0,none⟩) p.m p.m),(25,H6 (S ⟨k,0,none⟩) p.m p.m),(27,ptr n),(28,ptr j),(29,ptr m),(30,I2 I3 d)] v2 j d g o) Zx YU YU b b2 (λq=>Rn (v:=aK v2 q 0) c a5 a6 a7 a8 a9 b0 b1 ((C.av Z.lo.av).av (aA.heap R)) (Z.blk 1 YQ)) ?_;rintro e5 x3 y3 v3 w3 F3 b3 ⟨B3,k3,z3,⟨u3,rfl,b4,b5,b6,b7,b8,b9,c1,_⟩,q1,q2,q3,q4,q5⟩ b c2;obtain ⟨Bb,Lb,a0⟩:=Z.step (t:=1) R YQ c q1 q2 q3 q4 q5;refine dY (Q:=λg o=>xe p [(23,H6 (S ⟨i,0,none⟩) p.m p.m),(25,H6 (S ⟨k,0,none⟩) p.m p.m),(27,ptr n),(28,ptr j),(29,ptr m),(30,I2 I3 d)] v3 m d g o) Zx YU YU b c2 (λq=>Ro (v:=aK v3 q 0) c b4 b5 b6 b7 b8 b9 c1 ((C.av a0.lo.av).av (aA.heap R)) (a0.blk 2 YQ)) ?_;rintro e6 x4 y4 v4 w4 F4 c3 ⟨B4,k4,z4,⟨u4,rfl,c4,c5,c6,c7,c9,d0,d1,_⟩,q1,q2,q3,q4,q5⟩ b d2;obtain ⟨Bc,Lc,d3⟩:=a0.step (t:=2) R YQ c q1 q2 q3 q4 q5;refine aa.cd b λw b=> ?_;refine dY (Q:=λg o=>Fr p [(23,H6 (S ⟨i,0,none⟩) p.m p.m),(25,H6 (S ⟨k,0,none⟩) p.m p.m),(27,ptr n),(28,ptr j),(29,ptr m),(30,I2 I3 ((d + 1:Nat):Int))] g/\o.heap=v4.heap) Zx YU YU b d2 (λq=>Rk (v:=aK v4 q 0) c R c4 c5 c6 c7 c9 d0 d1) ?_;rintro d4 x5 y5 v5 w5 F5 d5 ⟨⟨u5,rfl,d6,d7,d8,d9,e0,e1,e2,_⟩,a3⟩ b e3;refine aa.dw b λw b=> ?_;rw[<-KL];exact ih (d + 1) d4 v5 F5 w u5 y5 Bc Lc YP b ((((hE.trans O).trans a4).trans b3).trans (c3.trans d5)) (d3.heap a3) d6 ⟨d7,d8,d9,e0,e1⟩ e2 e3
end
def GR (v v':World)(a:Option Nat):Prop:=v.heap.size<=v'.heap.size/\ ∀k,k<v.heap.size->S k≠a->v'.heap[k]? =v.heap[k]?
theorem GR.of {v':World}(h:v.grownBy v' r):GR v v' r:=⟨h.size,h.block⟩
theorem GR.low {v':World}(h:ar v v')(a:Option Nat):GR v v' a:=⟨h.1,λk b _=>h.2 k b⟩
theorem GR.heap {v v':World}(h:v'.heap=v.heap)(row:Option Nat):GR v v' row:= .low (ar.heap h) row
theorem GR.trans {a b c:World}{d:Option Nat}(h:GR a b d)(k:GR b c d):GR a c d:=⟨x0 h.1 k.1,λx e f=>(k.2 x (z7 e h.1) f).trans (h.2 x e f)⟩
theorem GR.cell(h:GR v I r){a:E7}{u:q6}(b:v.cell? a=S u)(c:S a.block≠r):I.cell? a=S u:=by rw[A7 (w:=v) (h.2 _ (cy b) c)];exact b
theorem GR.grown{row:Option Nat}(h:GR v w row):v.grownBy {v with heap:=w.heap} row:=⟨R,R,R,h.1,h.2⟩
def fE (a:Nat)(v:World)(b:q6)(k:Nat)(f:Nat->C2):Prop:= ∃c,v.ownsRow a 26 1 b k c/\ ∀j,j<k-> ∃z,c[j]? =S z/\aS z (f j)
theorem fE.nil (a:Nat)(v:World)(f:Nat->C2):fE a v (.slice none 0 0) 0 f:=⟨[],E9 _ _ _ _,λ_ b=>absurd b (B6 _)⟩
theorem fE.gr{v':World}(h:fE i v z k f)(g:GR v v' r)(a:z.ownBlock=none\/z.ownBlock≠r):fE i v' z k f:=by obtain ⟨b,c,d⟩:=h;exact ⟨b,c.kept (w':={v with heap:=v'.heap}) g.grown a,d⟩
theorem fE.lt {a k:Nat}{v:World}{b:q6}{f:Nat->C2}(h:fE a v b k f): ∀g,b.ownBlock=S g->a<=g/\g<v.heap.size:=by obtain ⟨d,c,_⟩:=h;exact c.lt
theorem fE.JA(h:fE i v z k f)(a:n<i):z.ownBlock≠S n:=λe=>by have:=(h.lt n e).1;omega
theorem fE.form(h:fE i v z k f): ∃e c,z= .slice e k c/\ ∀j,j<k-> ∃b a,e=S ⟨b,0,none⟩/\v.cell? ⟨b,j,none⟩=S a/\aS a (f j):=by
 obtain ⟨q,l,m⟩:=h;rcases id l.2 with ⟨rfl,rfl⟩ | ⟨g,d,n,rfl,_⟩
 ·simp
 ·refine ⟨_,d,R,λj o=> ?_⟩;obtain ⟨a,p,r⟩:=m j o;have:=l.cells (g:=g) R j a p;rw[F0]at this;grind
theorem fE.app {b:Nat}(p:E5)(h:fE n v z k f)(t:v.cell? ⟨b,0,none⟩=S (I0 I1 j i))(D:aS (I0 I1 j i) (f k))(E:k<=1000000)(c:n<=v.heap.size):
  ∃a d,(B8 #[24,24] p #[z,H6 (S ⟨b,0,none⟩) 1 1]).run Try.prog v= .ok a d/\fE n d a (k + 1) f/\v.grownBy d z.ownBlock/\(a.ownBlock=z.ownBlock\/a.ownBlock=S v.heap.size):=by
 obtain ⟨x,y,g,l,m⟩:=info_parts fY;obtain ⟨q,r,F⟩:=h;obtain ⟨a,d,A,B,q3,_,C⟩:=G0 (P:=Try.prog) (w:=v) n 24 p 26 x _ 1 16 Try.underlying24 y g l m R Nat.one_pos z k q r ⟨b,0,none⟩ 1 1 [I0 I1 j i] R (λo u e=>by
  rcases o with _ | o
  ·cases e;exact t
  ·cases e) (λu e=>by simp at e;subst e;rfl) (by unfold maxLen;omega) YP c
 refine ⟨a,d,A,⟨_,B,λo G=> ?_⟩,q3,C⟩;have s:q.length=k:=by have:=r.1;omega
 grind
structure B9 (vb v:World)(p:P3)(N M0:Nat)(bt B L:Nat->Nat)(st:Nat->Nat->C2×C2):Prop where
 lo:ar vb v
 QZ:vb.heap.size<=N
 m0:M0<=v.heap.size
 top: ∀k,k<9->B k<M0/\L k<M0
 Gx: ∀t,t<3->bt t<N
 nm:N<=M0
 arr: ∀t j,t<3->j<3->v.cell? ⟨bt t,j,none⟩=S (ptr (B (3 * j + t)))
 nine:NJ v p 9 B L st N
theorem B9.low {vb v v':World}{p:P3}{N M0:Nat}{d B L:Nat->Nat}{e:Nat->Nat->C2×C2}(h:B9 vb v p N M0 d B L e)(f:v.heap.size<=v'.heap.size)(b: ∀x,x<M0->v'.heap[x]? =v.heap[x]?):B9 vb v' p N M0 d B L e:=by
 have i:=h.nm;have o:=h.m0;have c:=h.QZ;refine ⟨⟨x0 h.lo.1 f,λx l=>(b x YP).trans (h.lo.2 x l)⟩,c,YP,h.top,h.Gx,i,λt j a m=> ?_,⟨λk g=> ?_,h.nine.low,h.nine.lN,h.nine.mH⟩⟩
 ·have:=h.Gx t a;rw[A7 (w:=v) (b _ YS)];exact h.arr t j a m
 ·have a:=h.top k g;exact (h.nine.dp k g).mv (λj u n=>by rw[A7 (w:=v) (b _ a.1)];exact n) (λ_=>b _ a.2) f
theorem B9.row{L:Nat->Nat}(h:B9 w v p N i E B L H)(g:GR v I r)(b: ∀x,r=S x->i<=x):B9 w I p N i E B L H:=
 h.low g.1 λx a=>g.2 x (z7 a h.m0) λe=>YS
theorem B9.step{L:Nat->Nat}{s':Nat->C2×C2}(h:B9 w v p N i E B L H)(a:k<9)(g:GR v I (S (L k)))(z:aF I (B k) (L k) (dj p (k / 3)) (dt (k / 3)) (aX p (k / 3)) s'):B9 w I p N i E B L (λq=>if q=k then s' else H q):=by
 have m:=h.nm;have n:=h.m0;have b:=h.QZ;have o:=h.nine.low k a;refine ⟨⟨x0 h.lo.1 g.1,λx d=>(g.2 x (z7 d h.lo.1) YT).trans (h.lo.2 x d)⟩,b,x0 n g.1,h.top,h.Gx,m,λt j f r=> ?_,⟨λq c=> ?_,h.nine.low,h.nine.lN,h.nine.mH⟩⟩
 ·have:=h.Gx t f;exact g.cell (h.arr t j f r) YT
 ·by_cases e:q=k
  ·grind
  ·rw[if_neg e];have l:=h.nine.dp q c;exact l.mv (λj u s=>g.cell s (by simp;exact λy=>h.nine.mH k q a c y.symm)) (λ_=>g.2 _ l.lt.2.1 (by simp;exact h.nine.lN q k c a e)) g.1
theorem B9.st {vb:World}{M0:Nat}{L:Nat->Nat}{st':Nat->Nat->C2×C2}(h:B9 vb v p N M0 E B L H)(e: ∀k,k<9->st' k=H k):B9 vb v p N M0 E B L st':=⟨h.lo,h.QZ,h.m0,h.top,h.Gx,h.nm,h.arr,⟨λk a=>by rw[e k a];exact h.nine.dp k a,h.nine.low,h.nine.lN,h.nine.mH⟩⟩
theorem L0.b9{L:Nat->Nat}(h:L0 w v p N E 9 B L)(b:w.heap.size<=N):B9 w v p N v.heap.size E B L (λ_=>aI):=⟨h.lo,b,C3 _,λk a=>⟨(h.nine.dp k a).lt.1,(h.nine.dp k a).lt.2.1⟩,h.Gx,h.vG,λt j c d=>h.arr t j c YP,h.nine⟩
noncomputable def eV:r3:=match dX with | .seq _ c=>c | _=> .skip
noncomputable def Nj:r3:=match dX with | .seq (.seq c _) _=>c | _=> .skip
noncomputable def No:r3:=match eV with | .seq c _=>c | _=> .skip
noncomputable def Np:r3:=match eV with | .seq _ (.seq c _)=>c | _=> .skip
noncomputable def Nq:r3:=match eV with | .seq _ (.seq _ (.seq (.seq c _) _))=>c | _=> .skip
noncomputable def rh:r3:=match eV with | .seq _ (.seq _ (.seq (.seq _ (.block _ (.loop c))) _))=>c | _=> .skip
noncomputable def jw:r3:=match eV with | .seq _ (.seq _ (.seq _ c))=>c | _=> .skip
noncomputable def GC:r3:=match rh with | .seq (.seq c _) _=>c | _=> .skip
noncomputable def Nr:r3:=match rh with | .seq _ (.seq _ c)=>c | _=> .skip
noncomputable def wN:r3:=match rh with | .seq _ (.seq (.block _ c) _)=>c | _=> .skip
noncomputable def Ns:r3:=match wN with | .seq c _=>c | _=> .skip
noncomputable def Nt:r3:=match wN with | .seq _ (.seq c _)=>c | _=> .skip
noncomputable def Nu:r3:=match wN with | .seq _ (.seq _ (.seq (.seq c _) _))=>c | _=> .skip
noncomputable def AE:r3:=match wN with | .seq _ (.seq _ (.seq (.seq _ (.block _ (.loop c))) _))=>c | _=> .skip
noncomputable def Nx:r3:=match wN with | .seq _ (.seq _ (.seq _ (.seq c _)))=>c | _=> .skip
noncomputable def Ny:r3:=match wN with | .seq _ (.seq _ (.seq _ (.seq _ c)))=>c | _=> .skip
noncomputable def GD:r3:=match AE with | .seq (.seq c _) _=>c | _=> .skip
noncomputable def Nv:r3:=match AE with | .seq _ (.seq _ c)=>c | _=> .skip
noncomputable def Nw:r3:=match AE with | .seq _ (.seq (.block _ (.seq c _)) _)=>c | _=> .skip
noncomputable def NK:Array E3:=match AE with | .seq _ (.seq (.block _ (.seq _ (.region _ o _))) _)=>o | _=> #[]
theorem KN:AE= .seq (.seq GD (.cond (.tmp 225) .skip (.exit 4))) (.seq (.block 5 (.seq Nw (.region 40 NK true))) Nv):=by rfl
theorem KM:rh= .seq (.seq GC (.cond (.tmp 217) .skip (.exit 2))) (.seq (.block 3 (.seq Ns (.seq Nt (.seq (.seq Nu (.block 4 (.loop AE))) (.seq Nx Ny))))) Nr):=by rfl
theorem Ou:dX= .seq (.seq Nj (.block 0 (.loop wW))) (.seq No (.seq Np (.seq (.seq Nq (.block 2 (.loop rh))) jw))):=by rfl
def Qs (p:P3)(l:Nat->Nat->List (Nat×q6))(v:World)(B L q:Nat)(z:C2)(s':Nat->C2×C2)(x:Array q6)(a:World):Prop:= ∃r i,Fr p (l r i) x/\aS (I0 I1 r i) z/\aF a B L (dj p q) (dt q) (aX p q) s'/\GR v a (S L)
section
variable {sb:Nat}
theorem Rj (b:M3 u p)(c:u 23= H6 (S ⟨i,0,none⟩) p.m p.m)(d:u 25= H6 (S ⟨k,0,none⟩) p.m p.m)(f:u 27=ptr n)(g:u 28=ptr j)(h:u 29=ptr N):
  Nj.wp Try.prog (λe a l=>e= .normal/\a.defers= []/\(Fr p [(23,H6 (S ⟨i,0,none⟩) p.m p.m),(25,H6 (S ⟨k,0,none⟩) p.m p.m),(27,ptr n),(28,ptr j),(29,ptr N),(30,I2 I3 ((0:Nat):Int))] a.tmps/\l.heap=v.heap)) ⟨dq u,[]⟩ v:=by
 have e:Nj=Nj:=rfl;conv at e=>rhs;unfold Nj eV dX ek ed dW dv dz gY iv iu gX T9 T8 T7 T6 T5 T3;simp only[Try.f3]
 rw[e,bf u,b.s3,b.s4,b.eX,b.fQ,b.fS,b.gN,b.fR,c,d,f,g,h];clear e b c d f g h;unfold ptr;go_wp2
 exact ⟨_,aM R,⟨R,R,R,R,R,R,R⟩,R,R,R,R,R,R,trivial⟩
theorem Rp (b:M3 u p)(c:u 23= H6 (S ⟨i,0,none⟩) p.m p.m)(d:u 25= H6 (S ⟨k,0,none⟩) p.m p.m)(f:u 27=ptr n)(g:u 28=ptr j)(h:u 29=ptr N):
  No.wp Try.prog (λe a l=>e= .normal/\a.defers= []/\(Fr p [(23,H6 (S ⟨i,0,none⟩) p.m p.m),(25,H6 (S ⟨k,0,none⟩) p.m p.m),(27,ptr n),(28,ptr j),(29,ptr N),(31,.slice none 0 0)] a.tmps/\l.heap=v.heap)) ⟨dq u,[]⟩ v:=by
 have e:No=No:=rfl;conv at e=>rhs;unfold No eV dX ek ed dW dv dz gY iv iu gX T9 T8 T7 T6 T5 T3;simp only[Try.f3]
 rw[e,bf u,b.s3,b.s4,b.eX,b.fQ,b.fS,b.gN,b.fR,c,d,f,g,h];clear e b c d f g h;unfold ptr;go_wp2
 exact ⟨_,aM R,⟨R,R,R,R,R,R,R⟩,R,R,R,R,R,R,trivial⟩
theorem Rq (b:M3 u p)(c:u 23= H6 (S ⟨i,0,none⟩) p.m p.m)(d:u 25= H6 (S ⟨k,0,none⟩) p.m p.m)(f:u 27=ptr n)(g:u 28=ptr j)(h:u 29=ptr N)(l:u 31=z):
  Np.wp Try.prog (λe a m=>e= .normal/\a.defers= []/\(Fr p [(23,H6 (S ⟨i,0,none⟩) p.m p.m),(25,H6 (S ⟨k,0,none⟩) p.m p.m),(27,ptr n),(28,ptr j),(29,ptr N),(31,z),(32,.slice none 0 0)] a.tmps/\m.heap=v.heap)) ⟨dq u,[]⟩ v:=by
 have e:Np=Np:=rfl;conv at e=>rhs;unfold Np eV dX ek ed dW dv dz gY iv iu gX T9 T8 T7 T6 T5 T3;simp only[Try.f3]
 rw[e,bf u,b.s3,b.s4,b.eX,b.fQ,b.fS,b.gN,b.fR,c,d,f,g,h,l];clear e b c d f g h l;unfold ptr;go_wp2
 exact ⟨_,aM R,⟨R,R,R,R,R,R,R⟩,R,R,R,R,R,R,R,trivial⟩
theorem Rr (b:M3 u p)(c:u 23= H6 (S ⟨i,0,none⟩) p.m p.m)(d:u 25= H6 (S ⟨k,0,none⟩) p.m p.m)(f:u 27=ptr n)(g:u 28=ptr j)(h:u 29=ptr N)(l:u 31=z)(m:u 32=q):
  Nq.wp Try.prog (λe a o=>e= .normal/\a.defers= []/\(Fr p [(23,H6 (S ⟨i,0,none⟩) p.m p.m),(25,H6 (S ⟨k,0,none⟩) p.m p.m),(27,ptr n),(28,ptr j),(29,ptr N),(31,z),(32,q),(33,I2 I3 ((0:Nat):Int))] a.tmps/\o.heap=v.heap)) ⟨dq u,[]⟩ v:=by
 have e:Nq=Nq:=rfl;conv at e=>rhs;unfold Nq eV dX ek ed dW dv dz gY iv iu gX T9 T8 T7 T6 T5 T3;simp only[Try.f3]
 rw[e,bf u,b.s3,b.s4,b.eX,b.fQ,b.fS,b.gN,b.fR,c,d,f,g,h,l,m];clear e b c d f g h l m;unfold ptr;go_wp2
 exact ⟨_,aM R,⟨R,R,R,R,R,R,R⟩,R,R,R,R,R,R,R,R,trivial⟩
theorem Px (b:M3 u p)(c:u 23= H6 (S ⟨k,0,none⟩) p.m p.m)(d:u 25= H6 (S ⟨n,0,none⟩) p.m p.m)(f:u 27=ptr j)(g:u 28=ptr N)(h:u 29=ptr m)(l:u 31=z)(o:u 32=q)(r:u 33= I2 I3 i)(w:i<p.m):
  GC.wp Try.prog (λe a s=>e= .normal/\a.defers= []/\(Fr p [(23,H6 (S ⟨k,0,none⟩) p.m p.m),(25,H6 (S ⟨n,0,none⟩) p.m p.m),(27,ptr j),(28,ptr N),(29,ptr m),(31,z),(32,q),(33,I2 I3 i),(217,.bool true)] a.tmps/\s.heap=v.heap)) ⟨dq u,[]⟩ v:=by
 have e:GC=GC:=rfl;conv at e=>rhs;unfold GC rh eV dX ek ed dW dv dz gY iv iu gX T9 T8 T7 T6 T5 T3;simp only[Try.f3]
 rw[e,bf u,b.s3,b.s4,b.eX,b.fQ,b.fS,b.gN,b.fR,c,d,f,g,h,l,o,r];have t:(i:Int)<(p.m:Int):=YP;clear e b c d f g h l o r;unfold ptr;go_wp2
 exact ⟨_,aM R,⟨R,R,R,R,R,R,R⟩,R,R,R,R,R,R,R,R,R,trivial⟩
theorem Pw (b:M3 u p)(c:u 23= H6 (S ⟨k,0,none⟩) p.m p.m)(d:u 25= H6 (S ⟨n,0,none⟩) p.m p.m)(f:u 27=ptr j)(g:u 28=ptr N)(h:u 29=ptr m)(l:u 31=z)(o:u 32=q)(r:u 33= I2 I3 i)(s:i=p.m):
  GC.wp Try.prog (λe a t=>e= .normal/\a.defers= []/\(Fr p [(23,H6 (S ⟨k,0,none⟩) p.m p.m),(25,H6 (S ⟨n,0,none⟩) p.m p.m),(27,ptr j),(28,ptr N),(29,ptr m),(31,z),(32,q),(33,I2 I3 i),(217,.bool false)] a.tmps/\t.heap=v.heap)) ⟨dq u,[]⟩ v:=by
 have e:GC=GC:=rfl;conv at e=>rhs;unfold GC rh eV dX ek ed dW dv dz gY iv iu gX T9 T8 T7 T6 T5 T3;simp only[Try.f3]
 rw[e,bf u,b.s3,b.s4,b.eX,b.fQ,b.fS,b.gN,b.fR,c,d,f,g,h,l,o,r];have w: ¬ (i:Int)<(p.m:Int):=YP;clear e b c d f g h l o r s;unfold ptr;go_wp2
 exact ⟨_,aM R,⟨R,R,R,R,R,R,R⟩,R,R,R,R,R,R,R,R,R,trivial⟩
theorem Rs (b:M3 u p)(c:u 23= H6 (S ⟨k,0,none⟩) p.m p.m)(d:u 25= H6 (S ⟨n,0,none⟩) p.m p.m)(f:u 27=ptr j)(g:u 28=ptr N)(h:u 29=ptr m)(l:u 31=z)(o:u 32=q)(r:u 33= I2 I3 i)(t:i<1000000):
  Nr.wp Try.prog (λe a w=>e= .normal/\a.defers= []/\(Fr p [(23,H6 (S ⟨k,0,none⟩) p.m p.m),(25,H6 (S ⟨n,0,none⟩) p.m p.m),(27,ptr j),(28,ptr N),(29,ptr m),(31,z),(32,q),(33,I2 I3 ((i + 1:Nat):Int))] a.tmps/\w.heap=v.heap)) ⟨dq u,[]⟩ v:=by
 have e:Nr=Nr:=rfl;conv at e=>rhs;unfold Nr rh eV dX ek ed dW dv dz gY iv iu gX T9 T8 T7 T6 T5 T3;simp only[Try.f3]
 rw[e,bf u,b.s3,b.s4,b.eX,b.fQ,b.fS,b.gN,b.fR,c,d,f,g,h,l,o,r];obtain ⟨T,s⟩: ∃T:Nat,T=i + 1:=⟨_,R⟩;have x:IntKind.i64.wrap ((i:Int) + 1)=(T:Int):=ZA;rw[<-s];clear e b c d f g h l o r t s;unfold ptr;go_wp2
 exact ⟨_,aM R,⟨R,R,R,R,R,R,R⟩,R,R,R,R,R,R,R,R,trivial⟩
theorem Rt (b:M3 u p)(c:u 23= H6 (S ⟨k,0,none⟩) p.m p.m)(d:u 25= H6 (S ⟨n,0,none⟩) p.m p.m)(f:u 27=ptr j)(g:u 28=ptr N)(h:u 29=ptr m)(l:u 31=z)(o:u 32=q)(r:u 33= I2 I3 i)(s:p.ad=S ⟨M,Y,none⟩)(x:i<p.m)(y:v.cell? ⟨M,Y + i,none⟩=S (I0 I1 L W)):
  Ns.wp Try.prog (λe a t=>e= .normal/\a.defers= []/\(Fr p [(23,H6 (S ⟨k,0,none⟩) p.m p.m),(25,H6 (S ⟨n,0,none⟩) p.m p.m),(27,ptr j),(28,ptr N),(29,ptr m),(31,z),(32,q),(33,I2 I3 i),(34,I0 I1 L W)] a.tmps/\t.heap=v.heap)) ⟨dq u,[]⟩ v:=by
 have e:Ns=Ns:=rfl;conv at e=>rhs;unfold Ns wN rh eV dX ek ed dW dv dz gY iv iu gX T9 T8 T7 T6 T5 T3;simp only[Try.f3]
 rw[e,bf u,b.s3,b.s4,b.eX,b.fQ,b.fS,b.gN,b.fR,c,d,f,g,h,l,o,r,s];have w:(i:Int)<(p.m:Int):=YP;clear e b c d f g h l o r;unfold ptr;go_wp2
 exact ⟨_,aM R,⟨R,R,congrArg (λa=>H6 a p.m p.c) s.symm,R,R,R,R⟩,R,R,R,R,R,R,R,R,R,trivial⟩
theorem Ru (b:M3 u p)(c:u 23= H6 (S ⟨k,0,none⟩) p.m p.m)(d:u 25= H6 (S ⟨n,0,none⟩) p.m p.m)(f:u 27=ptr j)(g:u 28=ptr N)(h:u 29=ptr m)(l:u 31=z)(o:u 32=q)(r:u 33= I2 I3 i)(s:u 34= I0 I1 L W):
  Nt.wp Try.prog (λe a t=>e= .normal/\a.defers= []/\(Fr p [(23,H6 (S ⟨k,0,none⟩) p.m p.m),(25,H6 (S ⟨n,0,none⟩) p.m p.m),(27,ptr j),(28,ptr N),(29,ptr m),(31,z),(32,q),(33,I2 I3 i),(34,I0 I1 L W),(35,I0 I1 0 0)] a.tmps/\t.heap=v.heap)) ⟨dq u,[]⟩ v:=by
 have e:Nt=Nt:=rfl;conv at e=>rhs;unfold Nt wN rh eV dX ek ed dW dv dz gY iv iu gX T9 T8 T7 T6 T5 T3;simp only[Try.f3]
 rw[e,bf u,b.s3,b.s4,b.eX,b.fQ,b.fS,b.gN,b.fR,c,d,f,g,h,l,o,r,s];clear e b c d f g h l o r s;unfold ptr;go_wp2
 exact ⟨_,aM R,⟨R,R,R,R,R,R,R⟩,R,R,R,R,R,R,R,R,R,R,trivial⟩
theorem Rv (b:M3 u p)(c:u 23= H6 (S ⟨k,0,none⟩) p.m p.m)(d:u 25= H6 (S ⟨n,0,none⟩) p.m p.m)(f:u 27=ptr j)(g:u 28=ptr N)(h:u 29=ptr m)(l:u 31=z)(o:u 32=q)(r:u 33= I2 I3 i)(s:u 34= I0 I1 L W)(t:u 35= I0 I1 M Y):
  Nu.wp Try.prog (λe a w=>e= .normal/\a.defers= []/\(Fr p [(23,H6 (S ⟨k,0,none⟩) p.m p.m),(25,H6 (S ⟨n,0,none⟩) p.m p.m),(27,ptr j),(28,ptr N),(29,ptr m),(31,z),(32,q),(33,I2 I3 i),(34,I0 I1 L W),(35,I0 I1 M Y),(36,I2 I3 ((0:Nat):Int))] a.tmps/\w.heap=v.heap)) ⟨dq u,[]⟩ v:=by
 have e:Nu=Nu:=rfl;conv at e=>rhs;unfold Nu wN rh eV dX ek ed dW dv dz gY iv iu gX T9 T8 T7 T6 T5 T3;simp only[Try.f3]
 rw[e,bf u,b.s3,b.s4,b.eX,b.fQ,b.fS,b.gN,b.fR,c,d,f,g,h,l,o,r,s,t];clear e b c d f g h l o r s t;unfold ptr;go_wp2
 exact ⟨_,aM R,⟨R,R,R,R,R,R,R⟩,R,R,R,R,R,R,R,R,R,R,R,trivial⟩
theorem Pz (b:M3 u p)(c:u 23= H6 (S ⟨k,0,none⟩) p.m p.m)(d:u 25= H6 (S ⟨n,0,none⟩) p.m p.m)(f:u 27=ptr N)(g:u 28=ptr m)(h:u 29=ptr L)(l:u 31=z)(o:u 32=q)(r:u 33= I2 I3 i)(s:u 34= I0 I1 W M)(t:u 35= I0 I1 Y X)(w:u 36= I2 I3 j)(A:j<3):
  GD.wp Try.prog (λe a x=>e= .normal/\a.defers= []/\(Fr p [(23,H6 (S ⟨k,0,none⟩) p.m p.m),(25,H6 (S ⟨n,0,none⟩) p.m p.m),(27,ptr N),(28,ptr m),(29,ptr L),(31,z),(32,q),(33,I2 I3 i),(34,I0 I1 W M),(35,I0 I1 Y X),(36,I2 I3 j),(225,.bool true)] a.tmps/\x.heap=v.heap)) ⟨dq u,[]⟩ v:=by
 have e:GD=GD:=rfl;conv at e=>rhs;unfold GD AE wN rh eV dX ek ed dW dv dz gY iv iu gX T9 T8 T7 T6 T5 T3;simp only[Try.f3]
 rw[e,bf u,b.s3,b.s4,b.eX,b.fQ,b.fS,b.gN,b.fR,c,d,f,g,h,l,o,r,s,t,w];have y:(j:Int)<3:=YP;clear e b c d f g h l o r s t w;unfold ptr;go_wp2
 exact ⟨_,aM R,⟨R,R,R,R,R,R,R⟩,R,R,R,R,R,R,R,R,R,R,R,R,trivial⟩
theorem Py (b:M3 u p)(c:u 23= H6 (S ⟨k,0,none⟩) p.m p.m)(d:u 25= H6 (S ⟨n,0,none⟩) p.m p.m)(f:u 27=ptr N)(g:u 28=ptr m)(h:u 29=ptr L)(l:u 31=z)(o:u 32=q)(r:u 33= I2 I3 i)(s:u 34= I0 I1 W M)(t:u 35= I0 I1 Y X)(w:u 36= I2 I3 j)(x:j=3):
  GD.wp Try.prog (λe a y=>e= .normal/\a.defers= []/\(Fr p [(23,H6 (S ⟨k,0,none⟩) p.m p.m),(25,H6 (S ⟨n,0,none⟩) p.m p.m),(27,ptr N),(28,ptr m),(29,ptr L),(31,z),(32,q),(33,I2 I3 i),(34,I0 I1 W M),(35,I0 I1 Y X),(36,I2 I3 j),(225,.bool false)] a.tmps/\y.heap=v.heap)) ⟨dq u,[]⟩ v:=by
 have e:GD=GD:=rfl;conv at e=>rhs;unfold GD AE wN rh eV dX ek ed dW dv dz gY iv iu gX T9 T8 T7 T6 T5 T3;simp only[Try.f3]
 rw[e,bf u,b.s3,b.s4,b.eX,b.fQ,b.fS,b.gN,b.fR,c,d,f,g,h,l,o,r,s,t,w];have A: ¬ (j:Int)<3:=YP;clear e b c d f g h l o r s t w x;unfold ptr;go_wp2
 exact ⟨_,aM R,⟨R,R,R,R,R,R,R⟩,R,R,R,R,R,R,R,R,R,R,R,R,trivial⟩
theorem Rx (b:M3 u p)(c:u 23= H6 (S ⟨k,0,none⟩) p.m p.m)(d:u 25= H6 (S ⟨n,0,none⟩) p.m p.m)(f:u 27=ptr N)(g:u 28=ptr m)(h:u 29=ptr L)(l:u 31=z)(o:u 32=q)(r:u 33= I2 I3 i)(s:u 34= I0 I1 W M)(t:u 35= I0 I1 Y X)(w:u 36= I2 I3 j)(y:j<1000000):
  Nv.wp Try.prog (λe a A=>e= .normal/\a.defers= []/\(Fr p [(23,H6 (S ⟨k,0,none⟩) p.m p.m),(25,H6 (S ⟨n,0,none⟩) p.m p.m),(27,ptr N),(28,ptr m),(29,ptr L),(31,z),(32,q),(33,I2 I3 i),(34,I0 I1 W M),(35,I0 I1 Y X),(36,I2 I3 ((j + 1:Nat):Int))] a.tmps/\A.heap=v.heap)) ⟨dq u,[]⟩ v:=by
 have e:Nv=Nv:=rfl;conv at e=>rhs;unfold Nv AE wN rh eV dX ek ed dW dv dz gY iv iu gX T9 T8 T7 T6 T5 T3;simp only[Try.f3]
 rw[e,bf u,b.s3,b.s4,b.eX,b.fQ,b.fS,b.gN,b.fR,c,d,f,g,h,l,o,r,s,t,w];obtain ⟨T,x⟩: ∃T:Nat,T=j + 1:=⟨_,R⟩;have B:IntKind.i64.wrap ((j:Int) + 1)=(T:Int):=ZA;rw[<-x];clear e b c d f g h l o r s t w y x;unfold ptr;go_wp2
 exact ⟨_,aM R,⟨R,R,R,R,R,R,R⟩,R,R,R,R,R,R,R,R,R,R,R,trivial⟩
theorem Ry (c:M3 u p)(d:u 23= H6 (S ⟨k,0,none⟩) p.m p.m)(f:u 25= H6 (S ⟨n,0,none⟩) p.m p.m)(h:u 27=ptr N)(l:u 28=ptr m)(o:u 29=ptr W)(s:u 31=z)(t:u 32=q)(w:u 33= I2 I3 i)(x:u 34= I0 I1 M Y)(y:u 35= I0 I1 X sb)(A:u 36= I2 I3 j){B b:Nat}{C:C2}(T:j<3)(H:v.cell? ⟨m,j,none⟩=S (ptr B))(E:aF v B L (dj p b) (dt b) (aX p b) g)(F:aS (I0 I1 M Y) C)(G:dj p b<=16):
  Nw.wp Try.prog (λe a I=>e= .normal/\a.defers= []/\Qs p (λr D=> [(23,H6 (S ⟨k,0,none⟩) p.m p.m),(25,H6 (S ⟨n,0,none⟩) p.m p.m),(27,ptr N),(28,ptr m),(29,ptr W),(31,z),(32,q),(33,I2 I3 i),(34,I0 I1 r D),(35,I0 I1 X sb),(36,I2 I3 j)]) v B L b (sE (aX p b) g (bm (dt b) C) (dj p b)) (fO (aX p b) g (bm (dt b) C) (dj p b)) a.tmps I) ⟨dq u,[]⟩ v:=by
 have e:Nw=Nw:=rfl;conv at e=>rhs;unfold Nw AE wN rh eV dX ek ed dW dv dz gY iv iu gX T9 T8 T7 T6 T5 T3;simp only[Try.f3]
 rw[e,bf u,c.s3,c.s4,c.eX,c.fQ,c.fS,c.gN,c.fR,d,f,h,l,o,s,t,w,x,y,A];have J:(j:Int)<3:=YP;have K:=au (Aj E F G);unfold ptr at H;clear e c d f h l o s t w x y A E F G;unfold ptr;go_wp2_with (go_at_call 18;refine (ae K).mono ?_;rintro e V ⟨O,D,rfl,P,Q,q3⟩)
 unfold Qs;exact ⟨O,D,⟨_,aM R,⟨R,R,R,R,R,R,R⟩,R,R,R,R,R,R,R,R,R,R,R,trivial⟩,P,Q,GR.of q3⟩
end
def MN (p:P3)(l:q6->List (Nat×q6))(v:World)(b k:Nat)(c:q6)(f:Nat->C2)(x:Array q6)(d:World):Prop:= ∃a,Fr p (l a) x/\fE b d a (k + 1) f/\GR v d c.ownBlock/\ ∀g,a.ownBlock=S g->c.ownBlock=S g\/v.heap.size<=g
theorem zm(p:E5)(h:fE n v z k f)(r:aS (I0 I1 j i) (f k))(s:k<=1000000)(b:n<=v.heap.size):
  ∃a m,(B8 #[24,24] p #[z,H6 (some ⟨v.heap.size,0,none⟩) 1 1]).run Try.prog (v.alloc (.cells #[I0 I1 j i] 26))= .ok a m/\fE n m a (k + 1) f/\GR v m z.ownBlock/\ ∀g,a.ownBlock=some g->z.ownBlock=some g\/v.heap.size<=g:=by
 have d:ar v (v.alloc (.cells #[I0 I1 j i] 26)):=ar.alloc _ _;have l:(v.alloc (.cells #[I0 I1 j i] 26)).cell? ⟨v.heap.size,0,none⟩=some (I0 I1 j i):=by unfold u0;show (match (v.heap.push _)[v.heap.size]? with | some (.cells c _ _)=>_ | _=>none)=_;simp
 have o:z.ownBlock=none\/z.ownBlock≠none:=YS;have t:=h.gr (GR.low d none) o;obtain ⟨a,m,u,w,q3,x⟩:=t.app p l r s (x0 b d.1);refine ⟨a,m,u,w,(GR.low d _).trans (GR.of q3),λg q=> ?_⟩;rcases x with e | e
 ·grind
 ·rw[e]at q;cases q;simp
theorem om{a:List E3}(b:o.guard=none)(s x:z9)(t:E5)(c:o.op= .call {callee:= .builtin .append,args:= #[s,x],argTypes:= #[t,t]})(d:A.eval s=z)(e:A.eval x=q)(f:(B8 #[t,t] o.type #[z,q]).run Try.prog w= .ok V v)(g:wpList Try.prog h Q a (A.put o.dst V) v):wpList Try.prog h Q (o::a) A w:=
 wpList_plain b λK i=>by unfold Oper.wp r4;simp only[c,G9,invoke,builtin,H2,H3,G1,p9,q7,q8,d,e,f];exact i _ _ g
section
variable {sb:Nat}
theorem Rz (c:M3 u p)(d:u 23= H6 (S ⟨n,0,none⟩) p.m p.m)(g:u 25= H6 (S ⟨N,0,none⟩) p.m p.m)(h:u 27=ptr m)(l:u 28=ptr L)(o:u 29=ptr W)(r:u 31=z)(s:u 32=q)(t:u 33= I2 I3 i)(w:u 34= I0 I1 M Y)(x:u 35= I0 I1 X sb)(y:u 36= I2 I3 j){b:Nat}(B:fE b v z k f)(C:aS (I0 I1 M Y) (f k))(D:k<=1000000)(E:b<=v.heap.size):
  Nx.wp Try.prog (λe a F=>e= .normal/\a.defers= []/\MN p (λG=> [(23,H6 (S ⟨n,0,none⟩) p.m p.m),(25,H6 (S ⟨N,0,none⟩) p.m p.m),(27,ptr m),(28,ptr L),(29,ptr W),(31,G),(32,q),(33,I2 I3 i),(34,I0 I1 M Y),(35,I0 I1 X sb),(36,I2 I3 j)]) v b k z f a.tmps F) ⟨dq u,[]⟩ v:=by
 have e:Nx=Nx:=rfl;conv at e=>rhs;unfold Nx wN rh eV dX ek ed dW dv dz gY iv iu gX T9 T8 T7 T6 T5 T3;simp only[Try.f3]
 rw[e,bf u,c.s3,c.s4,c.eX,c.fQ,c.fS,c.gN,c.fR,d,g,h,l,o,r,s,t,w,x,y];obtain ⟨A,K,H,I,q3,J⟩:=zm 24 B C D E;clear e c d g h l o r s t w x y B C D E;unfold ptr;go_wp2_with (at_builtin;refine om R _ _ 24 R R R H ?_)
 unfold MN;exact ⟨A,⟨_,aM R,⟨R,R,R,R,R,R,R⟩,R,R,R,R,R,R,R,R,R,R,R,trivial⟩,I,q3,J⟩
theorem RB (c:M3 u p)(d:u 23= H6 (S ⟨n,0,none⟩) p.m p.m)(g:u 25= H6 (S ⟨N,0,none⟩) p.m p.m)(h:u 27=ptr m)(l:u 28=ptr L)(o:u 29=ptr W)(r:u 31=z)(s:u 32=q)(t:u 33= I2 I3 i)(w:u 34= I0 I1 M Y)(x:u 35= I0 I1 X sb)(y:u 36= I2 I3 j){b:Nat}(B:fE b v q k f)(C:aS (I0 I1 X sb) (f k))(D:k<=1000000)(E:b<=v.heap.size):
  Ny.wp Try.prog (λe a F=>e= .normal/\a.defers= []/\MN p (λG=> [(23,H6 (S ⟨n,0,none⟩) p.m p.m),(25,H6 (S ⟨N,0,none⟩) p.m p.m),(27,ptr m),(28,ptr L),(29,ptr W),(31,z),(32,G),(33,I2 I3 i),(34,I0 I1 M Y),(35,I0 I1 X sb),(36,I2 I3 j)]) v b k q f a.tmps F) ⟨dq u,[]⟩ v:=by
 have e:Ny=Ny:=rfl;conv at e=>rhs;unfold Ny wN rh eV dX ek ed dW dv dz gY iv iu gX T9 T8 T7 T6 T5 T3;simp only[Try.f3]
 rw[e,bf u,c.s3,c.s4,c.eX,c.fQ,c.fS,c.gN,c.fR,d,g,h,l,o,r,s,t,w,x,y];obtain ⟨A,K,H,I,q3,J⟩:=zm 24 B C D E;clear e c d g h l o r s t w x y B C D E;unfold ptr;go_wp2_with (at_builtin;refine om R _ _ 24 R R R H ?_)
 unfold MN;exact ⟨A,⟨_,aM R,⟨R,R,R,R,R,R,R⟩,R,R,R,R,R,R,R,R,R,R,R,trivial⟩,I,q3,J⟩
end
theorem rJ (b k:Nat)(w:World)(h:k<3):(G8 61 (I4 (S ⟨b,0,none⟩)) (I2 I3 k)).run Try.prog w= .ok (I4 (S ⟨b,k,none⟩)) w:=by have a:(k:Int)<3:=YP;go_simp
theorem zK {p:E7}(h:w.cell? p=S (ptr i)):(E8 50 (.pointer (S p))).run Try.prog w= .ok (ptr i) w:=by unfold ptr at h ⊢;go_simp
theorem pR (b a n c k:Nat)(w:World)(h:k<n)(d:n<=1000000):(G8 24 (H6 (S ⟨b,a,none⟩) n c) (I2 I3 k)).run Try.prog w= .ok (I4 (S ⟨b,a + k,none⟩)) w:=by have e:(k:Int)<(n:Int):=YP;go_simp
def Sq (d i j B b a m c f g h k:Nat)(Y e:C2):Nat->q6->Prop
 | 233,v=>v= I0 I1 h k
 | 234,v=>v= I2 I3 j
 | 235,v=>v= I4 (S ⟨d,j,none⟩)
 | 236,v=>v=ptr B
 | 237,v=>v= H6 (S ⟨b,a,none⟩) m c
 | 238,v=>v= I2 I3 i
 | 239,v=>v= I4 (S ⟨b,a + i,none⟩)
 | 240,v=>v= I0 I1 f g
 | 241,v=>aS v Y
 | 242,v=>aS v (xp e Y)
 | 35,v=>aS v (xp e Y)
 | _,_=>True
def Ob (v:World)(L:Nat)(D:World->Prop)(a:Array Bool)(w:World):Prop:=(a.getD 8 false=false->w.heap=v.heap)/\(a.getD 8 false=true->GR v w (S L)/\D w)
theorem Ob.keep{D:World->Prop}{w':World}(h:Ob v L D s w)(i:Nat)(c:i≠8)(e:w'.heap=w.heap)(d: ∀a b:World,b.heap=a.heap->D a->D b):Ob v L D (s.setIfInBounds i true) w':=by unfold Ob;rw[r9 false c];exact ⟨λq=>e.trans (h.1 q),λq=>⟨(h.2 q).1.trans (GR.heap e _),d _ _ e (h.2 q).2⟩⟩
theorem OZ{C D:Nat}{z A:C2}(s:y.size=316)(E:y[11]? =S (H6 (S ⟨W,M,none⟩) p.m p.c))(F:y[27]? =S (ptr n))(G:y[33]? =S (I2 I3 i))(H:y[35]? =S (I0 I1 C D))(I:y[36]? =S (I2 I3 j))
  (V:i<p.m)(hm:p.m<=100)(Z:j<3)(hc:v.cell? ⟨n,j,none⟩=S (ptr N))(hx:v.cell? ⟨W,M + i,none⟩=S (I0 I1 Y X))(hz:aS (I0 I1 Y X) z)(hs:aS (I0 I1 C D) A)(hC:aF v N L (dj p m) (dt m) (aX p m) g)(hn:dj p m<=16):
  (C1 40 NK true).wp Try.prog (λe a O=>e= .normal/\a.defers= []/\(a.tmps.size=316/\(∃u,a.tmps[35]? =S u/\aS u (xp A (sE (aX p m) g (bm (dt m) z) (dj p m))))/\(∀k:Nat,k≠35->k<233\/242<k->a.tmps[k]? =y[k]?)/\GR v O (S L)/\aF O N L (dj p m) (dt m) (aX p m) (fO (aX p m) g (bm (dt m) z) (dj p m)))) ⟨y,[]⟩ v:=by
 have P:NK=NK:=rfl;conv at P=>rhs;unfold NK AE wN rh eV dX ek ed dW dv dz gY iv iu gX T9 T8 T7 T6 T5 T3;simp only[Try.f3]
 rw[P];have f: ∀a W:World,W.heap=a.heap->aF a N L (dj p m) (dt m) (aX p m) (fO (aX p m) g (bm (dt m) z) (dj p m))->aF W N L (dj p m) (dt m) (aX p m) (fO (aX p m) g (bm (dt m) z) (dj p m)):=λa W e h=>h.heap e;refine dF (Sq n i j N W M p.m p.c Y X C D (sE (aX p m) g (bm (dt m) z) (dj p m)) A) (Ob v L λw=>aF w N L (dj p m) (dt m) (aX p m) (fO (aX p m) g (bm (dt m) z) (dj p m))) Zx Zx Zx 316 Zx s ⟨λ_=>rfl,λh=>by simp at h⟩ ?_ ?_
 ·intro listed l w2 k o c Q x J d;have a0:k<11:=by simpa using (q9.1 Q).1
  have b:=c.world;have B:=cz J x YP;rcases (by omega:k=0\/k=1\/k=2\/k=3\/k=4\/k=5\/k=6\/k=7\/k=8\/k=9\/k=10)with rfl | rfl | rfl | rfl | rfl | rfl | rfl | rfl | rfl | rfl | rfl
  all_goals obtain rfl:=B5 Q
  ·exact aJ R ((c.pre 10 _ 35 R R (c.no [9] 0 10 Zx B)).trans (ay H)) ⟨aj R R,b.keep 0 YQ R f⟩
  ·exact aJ R ((c.base 36 Zx).trans (ay I)) ⟨aj R R,b.keep 1 YQ R f⟩
  ·exact cN R ((c.base 27 Zx).trans (ay F)) (c.slot 1 _ 234 R R (d ⟨1,.data⟩ YR R)) (rJ _ _ _ Z) ⟨aj R R,b.keep 2 YQ R f⟩
  ·have t:=b.1 (c.no [] 3 8 Zx B);exact bZ R (c.slot 2 _ 235 R R (d ⟨2,.data⟩ YR R)) (zK ((aA.heap t).2 _ _ hc)) ⟨aj R R,b.keep 3 YQ R f⟩
  ·exact aJ R ((c.base 11 Zx).trans (ay E)) ⟨aj R R,b.keep 4 YQ R f⟩
  ·exact aJ R ((c.base 33 Zx).trans (ay G)) ⟨aj R R,b.keep 5 YQ R f⟩
  ·exact cN R (c.slot 4 _ 237 R R (d ⟨4,.data⟩ YR R)) (c.slot 5 _ 238 R R (d ⟨5,.data⟩ YR R)) (pR _ _ _ _ _ _ V YP) ⟨aj R R,b.keep 6 YQ R f⟩
  ·have t:=b.1 (c.no [] 7 8 Zx B);exact bZ R (c.slot 6 _ 239 R R (d ⟨6,.data⟩ YR R)) (mQ ((aA.heap t).2 _ _ hx)) ⟨aj R R,b.keep 7 YQ R f⟩
  ·have t:=b.1 B;refine gw (us:= #[ptr N,I0 I1 Y X]) R (by simp only[p9,q7,q8];rw[show l.eval (.tmp 236)=_ from (c.slot 3 _ 236 R R (d ⟨3,.data⟩ YR R)),show l.eval (.tmp 240)=_ from (c.slot 7 _ 240 R R (d ⟨7,.data⟩ YR R))]) Try.func18 Zx YV ((Aj (hC.heap t) hz hn).mono ?_);rintro e w3 ⟨r1,i1,rfl,q1,q2,q3⟩;exact ⟨_,R,aj R q1,λh=>(by simp_all),λ_=>⟨(GR.heap t _).trans (GR.of q3),q2⟩⟩
  ·refine qd R (.inl R) R (za:=A) (by rw[show l.eval (.tmp 233)=_ from (c.slot 0 _ 233 R R (d ⟨0,.data⟩ YR R))];exact hs) (c.slot 8 _ 241 R R (d ⟨8,.data⟩ YR R)) (λ_ h=>h) λw3 K=>b.keep 9 YQ (C0 λk=>K.block k) f
  ·exact jj R R ⟨aj R (c.slot 9 _ 242 R R (d ⟨9,.data⟩ YR R)),b.keep 10 YQ R f⟩
 ·intro listed l w2 c q;have b:=c.world;have h5:=c.slot 10 _ 35 R R (q 10 YQ);have r:=c.size.trans s;have T:=b.2 (q 8 YQ);refine ⟨R,c.defers,r,⟨l.eval (.tmp 35),?_,h5⟩,?_,T.1,T.2⟩
  ·show l.tmps[35]? =S (l.tmps.getD 35 U);simp_all
  ·have d:=c.defers;obtain ⟨tm,df⟩:=l;dsimp only at d;subst d;exact λk h1 h2=>eH (p:=λk=>k≠35/\(k<233\/242<k)) s r (λk hk=>c.base k YT) k ⟨h1,h2⟩
def stA (p:P3)(X:Nat->C2)(q i:Nat):Nat->C2×C2:=oT (dt q) (dj p q) (aX p q) aI X i
def so (p:P3)(i j k:Nat):Nat->C2×C2:=if k % 3=0 then stA p p.X (k / 3) (if k / 3<j then i + 1 else i)else if k % 3=1 then stA p (Yp (dj p) dt (aX p) p.X (k / 3)) (k / 3) (if k / 3<j then i + 1 else i)else aI
theorem FB(k:Nat):so p i (j + 1) k=if k=3 * j then stA p p.X j (i + 1)else if k=3 * j + 1 then stA p (Yp (dj p) dt (aX p) p.X j) j (i + 1)else so p i j k:=by unfold so;grind
theorem FC(a:k<9):so p (i + 1) 0 k=so p i 3 k:=by unfold so;grind
theorem FD:so p 0 0 k=aI:=by
 unfold so;rw[if_neg (B6 _)];split
 ·rfl
 ·split<;>rfl
structure R2 (v:World)(p:P3)(M0 i:Nat)(vl vs:q6):Prop where
 a:fE M0 v vl i (Yp (dj p) dt (aX p) p.X 3)
 b:fE M0 v vs i (Zm (dj p) dt (aX p) p.X 3)
 d: ∀g,vl.ownBlock=S g->vs.ownBlock≠S g
theorem R2.gr {v v':World}{p:P3}{M0 i:Nat}{vl vs:q6}{a:Option Nat}(h:R2 v p M0 i vl vs)(g:GR v v' a)(b: ∀x,a=some x->x<M0):R2 v' p M0 i vl vs:=
 ⟨h.a.gr g (by cases a with
  | none=>grind
  | some x=>exact .inr (h.a.JA (b x R))),h.b.gr g (by cases a with
  | none=>grind
  | some x=>exact .inr (h.b.JA (b x R))),h.d⟩
section
variable {iS:aU}{vb:World}{M0:Nat}{L:Nat->Nat}
theorem Lm {xa xb:Nat}(e1:p.ad=S ⟨Y,X,none⟩)(c7:W3 vb p)(hi:i<p.m)(e2:vb.cell? ⟨Y,X + i,none⟩=S (I0 I1 xa xb))(e3:aS (I0 I1 xa xb) (p.X i))
  (K: ∀P v F w u y J O s A (c:Nat),At (E0 e) P v F bO w->Ext iS P->B9 vb v p N M0 (AO m W M) B L (so p i 3)->R2 v p M0 i q V->M3 u p->(u 23= H6 (S ⟨n,0,none⟩) p.m p.m/\u 25= H6 (S ⟨j,0,none⟩) p.m p.m/\u 27=ptr m/\u 28=ptr W/\u 29=ptr M/\u 31=q/\u 32=V/\u 33= I2 I3 i/\u 34= I0 I1 J O/\u 35= I0 I1 s A/\u 36= I2 I3 c)->aS (I0 I1 J O) (Yp (dj p) dt (aX p) p.X 3 i)->aS (I0 I1 s A) (Zm (dj p) dt (aX p) p.X 3 i)->aB P (dq u) y->cO a e F (G (ak 3 y t) l) w):
  ∀ (r c:Nat)(P:aU)(v:World)(F:aq)(w:World)(u:Nat->Value)(y:Array Value)(J O s A:Nat),c + r=3->At (E0 e) P v F bO w->Ext iS P->B9 vb v p N M0 (AO m W M) B L (so p i c)->R2 v p M0 i q V->M3 u p->(u 23= H6 (S ⟨n,0,none⟩) p.m p.m/\u 25= H6 (S ⟨j,0,none⟩) p.m p.m/\u 27=ptr m/\u 28=ptr W/\u 29=ptr M/\u 31=q/\u 32=V/\u 33= I2 I3 i/\u 34= I0 I1 J O/\u 35= I0 I1 s A/\u 36= I2 I3 c)->aS (I0 I1 J O) (Yp (dj p) dt (aX p) p.X c i)->aS (I0 I1 s A) (nU (λj'=>Cz (dj p) dt (aX p) p.X j' i) c)->aB P (dq u) y->
   cO a e F (G (ak 3 y (.code AE:: .inLoop AE:: .inBlock 4::t)) l) w:=by
 intro r;induction r with
 | zero=>intro c P v F w u y J O s A hj b hE h9 hR hM ⟨a2,a3,a4,a5,a6,a7,a8,a9,b0,b1,b2⟩ hY hZ hv;have f:c=3:=YP;rw[KN];refine aa.ah b λw b=> ?_;refine aa.ah b λw b=> ?_;refine dY (Q:=λC v'=>Fr p [(23,H6 (S ⟨n,0,none⟩) p.m p.m),(25,H6 (S ⟨j,0,none⟩) p.m p.m),(27,ptr m),(28,ptr W),(29,ptr M),(31,q),(32,V),(33,I2 I3 i),(34,I0 I1 J O),(35,I0 I1 s A),(36,I2 I3 c),(225,.bool false)] C/\v'.heap=v.heap) Zx YU YU b hv (λT=>Py (v:=aK v T 0) hM a2 a3 a4 a5 a6 a7 a8 a9 b0 b1 b2 f) ?_;rintro c9 x1 y1 v1 w1 F1 b3 ⟨⟨u1,rfl,b4,b5,b6,b7,b8,b9,c1,c2,c3,c4,c5,c6,D,_⟩,g⟩ b E;refine aa.go b YR (λ_=>bH ((E.fr 225 YQ D).mF)) λw b=> ?_;simp only[s7, ↓reduceIte];refine aa.go b YR (λ_=>fe R) λw b=> ?_;subst f;exact K c9 v1 F1 w u1 y1 J O s A 3 b (hE.trans b3) (h9.low YS λx _=>by rw[g]) (hR.gr (GR.heap g none) (λx H=>by cases H)) b4 ⟨b5,b6,b7,b8,b9,c1,c2,c3,c4,c5,c6⟩ hY hZ E
 | succ r ih=>
  intro c P v F w u y J O s A hj b hE h9 hR hM ⟨a2,a3,a4,a5,a6,a7,a8,a9,b0,b1,b2⟩ hY hZ hv;have f:c<3:=YP;have a0:=c7.oc.few c f;rw[KN];refine aa.ah b λw b=> ?_;refine aa.ah b λw b=> ?_;refine dY (Q:=λC v'=>Fr p [(23,H6 (S ⟨n,0,none⟩) p.m p.m),(25,H6 (S ⟨j,0,none⟩) p.m p.m),(27,ptr m),(28,ptr W),(29,ptr M),(31,q),(32,V),(33,I2 I3 i),(34,I0 I1 J O),(35,I0 I1 s A),(36,I2 I3 c),(225,.bool true)] C/\v'.heap=v.heap) Zx YU YU b hv (λT=>Pz (v:=aK v T 0) hM a2 a3 a4 a5 a6 a7 a8 a9 b0 b1 b2 f) ?_;rintro c9 x1 y1 v1 w1 F1 b3 ⟨⟨u1,rfl,b4,b5,b6,b7,b8,b9,c1,c2,c3,c4,c5,c6,D,_⟩,g⟩ b E;have Z:=h9.low (v':=v1) YS λx _=>by rw[g]
  have e4:=hR.gr (GR.heap g none) (λx H=>by cases H);refine aa.go b YR (λ_=>bH ((E.fr 225 YQ D).mF)) λw b=> ?_;simp only[if_true];refine aa.dh b λw b=> ?_;refine aa.ah b λw b=> ?_;refine aa.aV b λw b=> ?_;refine aa.ah b λw b=> ?_;have e5:aF v1 (B (3 * c + 1)) (L (3 * c + 1)) (dj p c) (dt c) (aX p c) (stA p (Yp (dj p) dt (aX p) p.X c) c i):=by have:=Z.nine.dp (3 * c + 1) YP;rw[show (3 * c + 1) / 3=c by omega]at this;unfold so at this;rw[if_neg YP,if_pos YP,show (3 * c + 1) / 3=c by omega,if_neg YP]at this;exact this
  refine dY (Q:=λC v'=>Qs p (λr i1=> [(23,H6 (S ⟨n,0,none⟩) p.m p.m),(25,H6 (S ⟨j,0,none⟩) p.m p.m),(27,ptr m),(28,ptr W),(29,ptr M),(31,q),(32,V),(33,I2 I3 i),(34,I0 I1 r i1),(35,I0 I1 s A),(36,I2 I3 c)]) v1 (B (3 * c + 1)) (L (3 * c + 1)) c (Yp (dj p) dt (aX p) p.X (c + 1) i) (stA p (Yp (dj p) dt (aX p) p.X c) c (i + 1)) C v') Zx YU YU b E (λT=>Ry (v:=aK v1 T 0) b4 b5 b6 b7 b8 b9 c1 c2 c3 c4 c5 c6 f (Z.arr 1 c YQ f) (e5.heap R) hY a0) ?_;rintro i8 x2 y2 v2 w2 F2 e6 ⟨r2,i2,⟨u2,rfl,o,e7,e8,d0,e9,f0,f1,f2,d1,f3,f4,d2,_⟩,f5,f6,d3⟩ b f7;have i9:=Z.top (3 * c + 1) YP;have I:=Z.step (k:=3 * c + 1) (s':=stA p (Yp (dj p) dt (aX p) p.X c) c (i + 1)) YP d3 (by rw[show (3 * c + 1) / 3=c by omega];exact f6);have f8:=e4.gr d3 (λx H=>YS);have f9:aF v2 (B (3 * c)) (L (3 * c)) (dj p c) (dt c) (aX p c) (stA p p.X c i):=by have:=I.nine.dp (3 * c) YP;rw[show 3 * c / 3=c by omega,if_neg YP]at this;unfold so at this;rw[if_pos YP,show 3 * c / 3=c by omega,if_neg YP]at this;exact this
  have fg: ∀ (k:Nat){z:Value},k<316->u2 k=z->(dq u2)[k]? =S z:=λk z hk H=>(dE u2 hk).trans (congrArg S H);refine dY (Q:=λC v'=>C.size=316/\(∃z,C[35]? =S z/\aS z (nU (λj'=>Cz (dj p) dt (aX p) p.X j' i) (c + 1)))/\(∀k:Nat,k≠35->k<233\/242<k->C[k]? =(dq u2)[k]?)/\GR v2 v' (S (L (3 * c)))/\aF v' (B (3 * c)) (L (3 * c)) (dj p c) (dt c) (aX p c) (stA p p.X c (i + 1))) Zx YU YU b f7 (λT=>OZ (v:=aK v2 T 0) (fh u2) (fg 11 YQ (by rw[o.eX,e1])) (fg 27 YQ d0) (fg 33 YQ d1) (fg 35 YQ f4) (fg 36 YQ d2) hi c7.pX f (I.arr 0 c YQ f) (I.lo.cell e2) e3 hZ (f9.heap R) a0) ?_;rintro j0 x3 y3 v3 w3 F3 g0 ⟨d4,⟨z3,g1,d5⟩,d6,d7,g2⟩ b g3;have i7:=I.top (3 * c) YP;have g4:=(I.step (k:=3 * c) (s':=stA p p.X c (i + 1)) YP d7 (by rw[show 3 * c / 3=c by omega];exact g2)).st (st':=so p i (c + 1)) λk _=>FB k;have g5:=f8.gr d7 (λx H=>YS);obtain ⟨d8,d9,rfl,_⟩:=id d5;obtain ⟨u3,rfl,e0⟩:=nF d4;have d: ∀k:Nat,k≠35->k<100-> ∀ {z},u2 k=z->u3 k=z:=λk h1 h2 {z} H=>e0 k z ((d6 k h1 YP).trans ((dE u2 YP).trans (congrArg S H)));have g6:M3 u3 p:=⟨d 3 YQ YQ o.s3,d 4 YQ YQ o.s4,d 11 YQ YQ o.eX,d 12 YQ YQ o.fQ,d 13 YQ YQ o.fS,d 14 YQ YQ o.gN,d 15 YQ YQ o.fR⟩;refine aa.cd b λw b=> ?_;refine dY (Q:=λC v'=>Fr p [(23,H6 (S ⟨n,0,none⟩) p.m p.m),(25,H6 (S ⟨j,0,none⟩) p.m p.m),(27,ptr m),(28,ptr W),(29,ptr M),(31,q),(32,V),(33,I2 I3 i),(34,I0 I1 r2 i2),(35,I0 I1 d8 d9),(36,I2 I3 ((c + 1:Nat):Int))] C/\v'.heap=v3.heap) Zx YU YU b g3 (λT=>Rx (v:=aK v3 T 0) g6 (d 23 YQ YQ e7) (d 25 YQ YQ e8) (d 27 YQ YQ d0) (d 28 YQ YQ e9) (d 29 YQ YQ f0) (d 31 YQ YQ f1) (d 32 YQ YQ f2) (d 33 YQ YQ d1) (d 34 YQ YQ f3) (e0 35 _ g1) (d 36 YQ YQ d2) YP) ?_;rintro g7 x4 y4 v4 w4 F4 g8 ⟨⟨u4,rfl,g9,h0,h3,h4,h5,h6,h7,h8,i0,i3,i4,i5,_⟩,a1⟩ b i6;refine aa.dw b λw b=> ?_;rw[<-KN];exact ih (c + 1) g7 v4 F4 w u4 y4 r2 i2 d8 d9 YP b (((hE.trans b3).trans e6).trans (g0.trans g8)) (g4.low YS λx _=>by rw[a1]) (g5.gr (GR.heap a1 none) (λx H=>by cases H)) g9 ⟨h0,h3,h4,h5,h6,h7,h8,i0,i3,i4,i5⟩ f5 d5 i6
end
theorem fE.beside(h:fE i v z k f)(g:GR v w q.ownBlock)(d: ∀x,q.ownBlock=some x->z.ownBlock≠some x):fE i w z k f:=h.gr g (by
 cases e:q.ownBlock with
 | none=>grind
 | some x=>grind)
section
variable {iS:aU}{vb:World}{M0:Nat}{L:Nat->Nat}
theorem Ll (W:W3 vb p)
  (K: ∀M v F w u y vl o (d:Nat),At (E0 e) M v F bO w->Ext iS M->B9 vb v p N M0 (AO n j m) B L (so p p.m 0)->R2 v p M0 p.m vl o->M3 u p->(u 23= H6 (S ⟨i,0,none⟩) p.m p.m/\u 25= H6 (S ⟨k,0,none⟩) p.m p.m/\u 27=ptr n/\u 28=ptr j/\u 29=ptr m/\u 31=vl/\u 32=o/\u 33= I2 I3 d)->aB M (dq u) y->cO a e F (G (ak 3 y t) l) w):
  ∀ (r d:Nat)(M:aU)(v:World)(F:aq)(w:World)(u:Nat->Value)(y:Array Value)(vl o:Value),d + r=p.m->At (E0 e) M v F bO w->Ext iS M->B9 vb v p N M0 (AO n j m) B L (so p d 0)->R2 v p M0 d vl o->M3 u p->(u 23= H6 (S ⟨i,0,none⟩) p.m p.m/\u 25= H6 (S ⟨k,0,none⟩) p.m p.m/\u 27=ptr n/\u 28=ptr j/\u 29=ptr m/\u 31=vl/\u 32=o/\u 33= I2 I3 d)->aB M (dq u) y->
   cO a e F (G (ak 3 y (.code rh:: .inLoop rh:: .inBlock 2::t)) l) w:=by
 intro r;induction r with
 | zero=>intro d M v F w u y vl o hi c hE h9 hR hM ⟨X,Y,Z,a0,a1,a2,a3,a4⟩ hv;have q:d=p.m:=YP;rw[KM];refine aa.ah c λw c=> ?_;refine aa.ah c λw c=> ?_;refine dY (Q:=λs v'=>Fr p [(23,H6 (S ⟨i,0,none⟩) p.m p.m),(25,H6 (S ⟨k,0,none⟩) p.m p.m),(27,ptr n),(28,ptr j),(29,ptr m),(31,vl),(32,o),(33,I2 I3 d),(217,.bool false)] s/\v'.heap=v.heap) Zx YU YU c hv (λA=>Pw (v:=aK v A 0) hM X Y Z a0 a1 a2 a3 a4 q) ?_;rintro b5 x1 y1 v1 w1 F1 a5 ⟨⟨u1,rfl,a6,a7,a8,a9,b0,b1,b2,b3,b4,J,_⟩,D⟩ c H;refine aa.go c YR (λ_=>bH ((H.fr 217 YQ J).mF)) λw c=> ?_;simp only[s7, ↓reduceIte];refine aa.go c YR (λ_=>fe R) λw c=> ?_;rw[q]at h9 hR;exact K b5 v1 F1 w u1 y1 vl o d c (hE.trans a5) (h9.low YS λx _=>by rw[D]) (hR.gr (GR.heap D none) (λx C=>by cases C)) a6 ⟨a7,a8,a9,b0,b1,b2,b3,b4⟩ H
 | succ r ih=>
  intro d M v F w u y vl o hi c hE h9 hR hM ⟨X,Y,Z,a0,a1,a2,a3,a4⟩ hv;have q:d<p.m:=YP;have d6:=W.pX;obtain ⟨b,O,b6⟩: ∃b O,p.ad=S ⟨b,O,none⟩/\ ∃P T,vb.cell? ⟨b,O + d,none⟩=S (I0 I1 P T)/\aS (I0 I1 P T) (p.X d):=by obtain ⟨o4,c',C,h⟩:=W.list;cases C;obtain ⟨b,O,z,e1,_,e2,e3⟩:=h d q;obtain ⟨P,T,rfl,_⟩:=id e3;grind
  obtain ⟨b7,P,T,b8,b9⟩:=b6;rw[KM];refine aa.ah c λw c=> ?_;refine aa.ah c λw c=> ?_;refine dY (Q:=λs v'=>Fr p [(23,H6 (S ⟨i,0,none⟩) p.m p.m),(25,H6 (S ⟨k,0,none⟩) p.m p.m),(27,ptr n),(28,ptr j),(29,ptr m),(31,vl),(32,o),(33,I2 I3 d),(217,.bool true)] s/\v'.heap=v.heap) Zx YU YU c hv (λA=>Px (v:=aK v A 0) hM X Y Z a0 a1 a2 a3 a4 q) ?_;rintro b5 x1 y1 v1 w1 F1 a5 ⟨⟨u1,rfl,a6,a7,a8,a9,b0,b1,b2,b3,b4,J,_⟩,D⟩ c H;refine aa.go c YR (λ_=>bH ((H.fr 217 YQ J).mF)) λw c=> ?_;simp only[if_true];refine aa.dh c λw c=> ?_;refine aa.ah c λw c=> ?_;refine aa.aV c λw c=> ?_;refine aa.ah c λw c=> ?_;have d7:=(aA.heap D).2 _ _ (h9.lo.cell b8);refine dY (Q:=λs v'=>Fr p [(23,H6 (S ⟨i,0,none⟩) p.m p.m),(25,H6 (S ⟨k,0,none⟩) p.m p.m),(27,ptr n),(28,ptr j),(29,ptr m),(31,vl),(32,o),(33,I2 I3 d),(34,I0 I1 P T)] s/\v'.heap=v1.heap) Zx YU YU c H (λA=>Rt (v:=aK v1 A 0) a6 a7 a8 a9 b0 b1 b2 b3 b4 b7 q d7) ?_;rintro o5 x2 y2 v2 w2 F2 d8 ⟨⟨u2,rfl,d9,e0,e4,e5,e6,e7,e8,e9,f0,f1,_⟩,o0⟩ c c1;refine aa.ah c λw c=> ?_;refine dY (Q:=λs v'=>Fr p [(23,H6 (S ⟨i,0,none⟩) p.m p.m),(25,H6 (S ⟨k,0,none⟩) p.m p.m),(27,ptr n),(28,ptr j),(29,ptr m),(31,vl),(32,o),(33,I2 I3 d),(34,I0 I1 P T),(35,I0 I1 0 0)] s/\v'.heap=v2.heap) Zx YU YU c c1 (λA=>Ru (v:=aK v2 A 0) d9 e0 e4 e5 e6 e7 e8 e9 f0 f1) ?_;rintro o6 x3 y3 v3 w3 F3 f2 ⟨⟨u3,rfl,f3,f4,f5,f6,f7,f8,f9,g0,g1,g2,g3,_⟩,o1⟩ c c2;refine aa.ah c λw c=> ?_;refine aa.ah c λw c=> ?_;refine dY (Q:=λs v'=>Fr p [(23,H6 (S ⟨i,0,none⟩) p.m p.m),(25,H6 (S ⟨k,0,none⟩) p.m p.m),(27,ptr n),(28,ptr j),(29,ptr m),(31,vl),(32,o),(33,I2 I3 d),(34,I0 I1 P T),(35,I0 I1 0 0),(36,I2 I3 ((0:Nat):Int))] s/\v'.heap=v3.heap) Zx YU YU c c2 (λA=>Rv (v:=aK v3 A 0) f3 f4 f5 f6 f7 f8 f9 g0 g1 g2 g3) ?_;rintro g4 x4 y4 v4 w4 F4 g5 ⟨⟨u4,rfl,g6,g7,g8,g9,h0,h1,h2,h3,h4,h5,h6,h7,_⟩,o2⟩ c c3;have c4:v4.heap=v.heap:=YS;have h8:=h9.low (v':=v4) YS λx _=>by rw[c4]
  have i0:=hR.gr (GR.heap c4 none) (λx C=>by cases C);have c5:=(((hE.trans a5).trans d8).trans f2).trans g5;refine aa.aV c λw c=> ?_;refine aa.dO c λw c=> ?_;refine Lm (iS:=iS) (vb:=vb) (N:=N) (M0:=M0) (B:=B) (L:=L) b7 W q b8 b9 ?_ 3 0 g4 v4 F4 w u4 y4 P T 0 0 YP c c5 h8 i0 g6 ⟨g7,g8,g9,h0,h1,h2,h3,h4,h5,h6,h7⟩ b9 (aS.of 0 0 YQ YQ) c3;clear hv H c1 c2 c3 c;intro o7 v5 F5 w u5 y5 ya yb sa sb o3 c i1 c6 I i2 ⟨i3,i4,i5,i6,i7,i8,i9,j0,j1,j2,j3⟩ j4 j5 j6;refine aa.ah c λw c=> ?_;refine dY (Q:=λs v'=>MN p (λx1=> [(23,H6 (S ⟨i,0,none⟩) p.m p.m),(25,H6 (S ⟨k,0,none⟩) p.m p.m),(27,ptr n),(28,ptr j),(29,ptr m),(31,x1),(32,o),(33,I2 I3 d),(34,I0 I1 ya yb),(35,I0 I1 sa sb),(36,I2 I3 o3)]) v5 M0 d vl (Yp (dj p) dt (aX p) p.X 3) s v') Zx YU YU c j6 (λA=>Rz (v:=aK v5 A 0) i2 i3 i4 i5 i6 i7 i8 i9 j0 j1 j2 j3 I.a j4 YP c6.m0) ?_;rintro o8 x6 y6 v6 w6 F6 j7 ⟨f,⟨u6,rfl,j8,j9,k0,k1,k2,k3,k4,k5,k6,k7,k8,k9,_⟩,c7,c9,l0⟩ c l1;have l2:=I.a.lt;have o9:=I.b.lt;have d0:=c6.row c9 (λx C=>(l2 x C).1);have d1:=I.b.beside c9 I.d;have d2: ∀g,f.ownBlock=S g->o.ownBlock≠S g:=λg C e'=>by
   rcases l0 g C with h | h
   ·exact I.d g h e'
   grind
  refine dY (Q:=λs v'=>MN p (λx1=> [(23,H6 (S ⟨i,0,none⟩) p.m p.m),(25,H6 (S ⟨k,0,none⟩) p.m p.m),(27,ptr n),(28,ptr j),(29,ptr m),(31,f),(32,x1),(33,I2 I3 d),(34,I0 I1 ya yb),(35,I0 I1 sa sb),(36,I2 I3 o3)]) v6 M0 d o (Zm (dj p) dt (aX p) p.X 3) s v') Zx YU YU c l1 (λA=>RB (v:=aK v6 A 0) j8 j9 k0 k1 k2 k3 k4 k5 k6 k7 k8 k9 d1 j5 YP d0.m0) ?_;rintro p0 x7 y7 v7 w7 F7 l3 ⟨E,⟨u7,rfl,l4,l5,l6,l7,l8,l9,m0,m1,m2,p1,p3,p4,_⟩,m3,d3,p5⟩ c m4;have p6:=c7.lt;have d4:=d1.lt;have m5:=d0.row d3 (λx C=>(d4 x C).1);have m6:=c7.beside d3 (λx C e'=>d2 x e' C);have d5: ∀g,f.ownBlock=S g->E.ownBlock≠S g:=YS;refine aa.cd c λw c=> ?_;refine dY (Q:=λs v'=>Fr p [(23,H6 (S ⟨i,0,none⟩) p.m p.m),(25,H6 (S ⟨k,0,none⟩) p.m p.m),(27,ptr n),(28,ptr j),(29,ptr m),(31,f),(32,E),(33,I2 I3 ((d + 1:Nat):Int))] s/\v'.heap=v7.heap) Zx YU YU c m4 (λA=>Rs (v:=aK v7 A 0) l4 l5 l6 l7 l8 l9 m0 m1 m2 YP) ?_;rintro m7 x8 y8 v8 w8 F8 m8 ⟨⟨u8,rfl,m9,n0,n1,n2,n3,n4,n5,n6,n7,_⟩,V⟩ c n8;refine aa.dw c λw c=> ?_;rw[<-KM];have n9:R2 v7 p M0 (d + 1) f E:=⟨m6,m3,d5⟩;exact ih (d + 1) m7 v8 F8 w u8 y8 f E YP c (((i1.trans j7).trans l3).trans m8) ((m5.low YS λx _=>by rw[V]).st λp7 hk=>FC hk) (n9.gr (GR.heap V none) (λx C=>by cases C)) m9 ⟨n0,n1,n2,n3,n4,n5,n6,n7⟩ n8
end
noncomputable def zf:r3:=match jw with | .seq _ (.seq _ (.seq (.seq _ (.block _ (.loop c))) _))=>c | _=> .skip
noncomputable def NL:Array E3:=match zf with | .seq _ (.seq (.block _ (.seq (.region _ o _) _)) _)=>o | _=> #[]
noncomputable def NM:Array E3:=match zf with | .seq _ (.seq (.block _ (.seq _ (.region _ o _))) _)=>o | _=> #[]
def iC (a:Nat)(v:World)(b:q6)(k:Nat)(e:Nat->Nat)(X:Nat->C2):Prop:= ∃c,v.ownsRow a 65 2 b k c/\ ∀j,j<k-> ∃x d,c[j * 2]? =S (I2 I3 (e j))/\c[j * 2 + 1]? =S (I0 I1 x d)/\aS (I0 I1 x d) (X j)
theorem iC.nil (a:Nat)(v:World)(b:Nat->Nat)(X:Nat->C2):iC a v (.slice none 0 0) 0 b X:=⟨[],E9 _ _ _ _,λ_ c=>absurd c (B6 _)⟩
section
variable {v':World}{X:Nat->C2}
theorem iC.gr(h:iC i v z k B f)(g:GR v v' r)(a:z.ownBlock=none\/z.ownBlock≠r):iC i v' z k B f:=by obtain ⟨b,c,d⟩:=h;exact ⟨b,c.kept (w':={v with heap:=v'.heap}) g.grown a,d⟩
theorem iC.lt (h:iC i v z k B X): ∀g,z.ownBlock=S g->i<=g/\g<v.heap.size:=by obtain ⟨b,a,_⟩:=h;exact a.lt
theorem iC.JA(h:iC i v z k B f)(a:n<i):z.ownBlock≠S n:=λe=>by have:=(h.lt n e).1;omega
theorem iC.beside(h:iC i v z k B f)(g:GR v w q.ownBlock)(d: ∀x,q.ownBlock=some x->z.ownBlock≠some x):iC i w z k B f:=h.gr g (by
 cases e:q.ownBlock with
 | none=>grind
 | some x=>grind)
theorem iC.turns (h:iC i v z k B f): ∃b c,z= .slice b k c/\fI v b k B f/\ ∀q,b=S q->q.block<v.heap.size:=by
 obtain ⟨t,n,p⟩:=h;rcases id n.2 with ⟨rfl,rfl⟩ | ⟨g,d,r,rfl,_,u,_⟩
 ·exact ⟨none,0,R,λj l=>absurd l (B6 _),λq e=>by cases e⟩
 ·refine ⟨_,d,R,λj l=> ?_,λq e=>YS⟩;obtain ⟨x,s,w,y,q3⟩:=p j l;refine ⟨g,x,s,R,λa o m=> ?_,q3⟩;have A:=λa o m=>by have:=n.cells (g:=g) R a o m;rw[F0,Nat.zero_add]at this;exact this
  rcases a with _ | _ | a
  ·grind
  ·grind
  ·cases m
theorem xY:(Try.prog.info? 65).map (λi=>(i.zero,i.size,i.bytes))=S (S (.agg #[I2 I3 0,I0 I1 0 0]),2,24):=Zx
theorem iC.app {b:Nat}(q:E5)(h:iC n v z k B f)(s:v.rangeAt b 0 [I2 I3 (B k),I0 I1 j i])(t:aS (I0 I1 j i) (f k))(F:k<=1000000)(d:n<=v.heap.size):
  ∃a I,(B8 #[63,63] q #[z,H6 (S ⟨b,0,none⟩) 1 1]).run Try.prog v= .ok a I/\iC n I a (k + 1) B f/\v.grownBy I z.ownBlock/\(a.ownBlock=z.ownBlock\/a.ownBlock=S v.heap.size):=by
 obtain ⟨x,y,m,o,p⟩:=info_parts xY;obtain ⟨A,r,G⟩:=h;obtain ⟨a,I,C,D,q3,_,E⟩:=G0 (P:=Try.prog) (w:=v) n 63 q 65 x _ 2 24 Try.underlying63 y m o p R YQ z k A r ⟨b,0,none⟩ 1 1 [I2 I3 (B k),I0 I1 j i] R (λg u l=>by rw[F0];exact s g u l) (λu l=>by simp at l;rcases l with rfl | rfl<;>rfl) (by unfold maxLen;omega) YP d;refine ⟨a,I,C,⟨_,D,λg H=> ?_⟩,q3,E⟩;have c:=r.1;by_cases e:g=k
 ·subst e;exact ⟨j,i,by rw[A4 YP,c,Nat.sub_self];rfl,by rw[A4 YP,c,show g * 2 + 1 - g * 2=1 by omega];rfl,t⟩
 grind
end
theorem Gc(a:o.op= .convert 5 3 x)(c:b x= .int .u8 n)(d:n<256):(r4 b o).run Try.prog w= .ok (.value (I2 I3 n)) w:=by have e:IntKind.i64.wrap (n:Int)=(n:Int):=ZA;unfold r4;simp only[a,c];go_simp
theorem Gj(a:o.op= .binOp .rem 3 x (.const (I2 I3 3)) 3)(c:b x= I2 I3 n)(d:b (.const (I2 I3 3))= I2 I3 3):(r4 b o).run Try.prog w= .ok (.value (I2 I3 ((n % 3:Nat):Int))) w:=by
 have e:((n:Int)).tmod 3=((n % 3:Nat):Int):=by rw[Int.tmod_eq_emod_of_nonneg YP];omega
 unfold r4;simp only[a,c,d];go_simp
theorem MD {y:z9}(a:o.op= .build 65 #[(0,x),(1,y)])(c:b x= I2 I3 Z)(d:b y= I0 I1 k i):(r4 b o).run Try.prog w= .ok (.value (.agg #[I2 I3 Z,I0 I1 k i])) w:=by unfold r4;simp only[a,p9,q7,q8,c,d];go_simp
theorem Jm(a:o.op= .buildSlice 63 1 #[(0,x)])(c:b x= .agg #[I2 I3 Z,I0 I1 k i]):(r4 b o).run Try.prog w= .ok (.value (H6 (S ⟨w.heap.size,0,none⟩) 1 1)) (w.alloc (.cells #[I2 I3 Z,I0 I1 k i] 65)):=by unfold r4;simp only[a,p9,q7,q8,c];go_simp
theorem wL {y:z9}(a:o.op= .call {callee:= .builtin .append,args:= #[x,y],argTypes:= #[C,C]})(c:b x=z)(d:b y=q)(e:(B8 #[C,C] o.type #[z,q]).run Try.prog w= .ok V v):(r4 b o).run Try.prog w= .ok (.value V) v:=by unfold r4;simp only[a,G9,invoke,builtin,H2,H3,G1,p9,q7,q8,c,d,e]
def Ss (i e f j k d b a m c g h l:Nat)(n:q6):Nat->q6->Prop
 | 263,v=>v=n
 | 264,v=>v= H6 (S ⟨e,f,none⟩) j k
 | 265,v=>v= I2 I3 i
 | 266,v=>v= I4 (S ⟨e,f + i,none⟩)
 | 267,v=>v= .int .u8 d
 | 268,v=>v= I2 I3 d
 | 269,v=>v= I2 I3 ((d % 3:Nat):Int)
 | 270,v=>v= H6 (S ⟨b,a,none⟩) m c
 | 271,v=>v= I2 I3 i
 | 272,v=>v= I4 (S ⟨b,a + i,none⟩)
 | 273,v=>v= I0 I1 g h
 | 274,v=>v= .agg #[I2 I3 ((d % 3:Nat):Int),I0 I1 g h]
 | 275,v=>v= H6 (S ⟨l,0,none⟩) 1 1
 | _,_=>True
def Qk (a:Nat)(v:World)(c:q6)(i:Nat)(d:Nat->Nat)(X:Nat->C2)(b:q6)(w:World):Prop:=iC a w b (i + 1) d X/\GR v w c.ownBlock/\ ∀g,b.ownBlock=S g->c.ownBlock=S g\/v.heap.size<=g
structure Qe (v:World)(row:Array q6)(D:q6->World->Prop)(listed:Array Bool)(ac:H8)(w:World):Prop where
 a:listed.getD 12 false=false->w.heap=v.heap
 b:listed.getD 12 false=true->listed.getD 13 false=false->w.heap=v.heap.push (.cells row 65)
 c:listed.getD 13 false=true->D (ac.eval (.tmp 276)) w
 d:listed.getD 14 false=true->ac.eval (.tmp 37)=ac.eval (.tmp 276)
theorem Qe.keep{a:H8}(h:Qe v y D s a w)(i d:Nat)(u:q6)(f:i≠12/\i≠13/\i≠14)(b:d≠276/\d≠37):Qe v y D (s.setIfInBounds i true) (a.put (S d) u) w:=by
 have c: ∀ {t},d≠t->(a.put (S d) u).eval (.tmp t)=a.eval (.tmp t):=λ{t} g=>A8 YS;refine ⟨λq=>h.a (fB q),λq e=>h.b (by simp_all) (fB e),λq=> ?_,λq=> ?_⟩
 ·rw[c b.1];exact h.c (by simp_all)
 ·rw[c b.1,c b.2];exact h.d (by simp_all)
theorem Pc{b:Nat}(s:y.size=316)(s4:y[4]? =S (H6 (S ⟨n,j,none⟩) p.n4 p.c4))(M:y[11]? =S (H6 (S ⟨b,m,none⟩) p.m p.c))(O:y[37]? =S z)(E:y[39]? =S (I2 I3 i))
  (hi:i<p.m)(hm:p.m<=100)(P:i<p.n4)(hc:v.cell? ⟨n,j + i,none⟩=S (.int .u8 N))(Q:N<256)(hx:v.cell? ⟨b,m + i,none⟩=S (I0 I1 L W))(hz:aS (I0 I1 L W) (p.X i))(T:B i=N % 3)(hO:iC k v z i B p.X)(hb:k<=v.heap.size):
  (C1 48 NL true).wp Try.prog (λe a X=>e= .normal/\a.defers= []/\(a.tmps.size=316/\(∃val,a.tmps[37]? =S val/\iC k X val (i + 1) B p.X/\GR v X z.ownBlock/\ ∀g,val.ownBlock=S g->z.ownBlock=S g\/v.heap.size<=g)/\(∀f:Nat,f≠37->f<263\/276<f->a.tmps[f]? =y[f]?))) ⟨y,[]⟩ v:=by
 have Y:NL=NL:=rfl;conv at Y=>rhs;unfold NL zf jw eV dX ek ed dW dv dz gY iv iu gX T9 T8 T7 T6 T5 T3;simp only[Try.f3]
 rw[Y];refine cv (Ss i n j p.n4 p.c4 N b m p.m p.c L W v.heap.size z) (Qe v #[I2 I3 ((N % 3:Nat):Int),I0 I1 L W] (Qk k v z i B p.X)) Zx Zx Zx 316 Zx s ⟨λ_=>rfl,λh=>by simp at h,λh=>by simp at h,λh=>by simp at h⟩ ?_ ?_
 ·intro listed l J f o d Z A V q;have a0:f<15:=by simpa using (q9.1 Z).1
  have c:=d.world;have C:=cz V A YP;have K: ∀F,F≠f->(listed.setIfInBounds f true).getD F false=listed.getD F false:=λF hj=>r9 false (Ne.symm hj);have gi:=bS A YP;have r:=d.size.trans s;rcases (by omega:f=0\/f=1\/f=2\/f=3\/f=4\/f=5\/f=6\/f=7\/f=8\/f=9\/f=10\/f=11\/f=12\/f=13\/f=14)with rfl | rfl | rfl | rfl | rfl | rfl | rfl | rfl | rfl | rfl | rfl | rfl | rfl | rfl | rfl
  all_goals obtain rfl:=B5 Z
  ·exact aJ R ((d.pre 14 _ 37 R R (d.no [13] 0 14 Zx C)).trans (ay O)) ⟨aj R R,c.keep 0 263 _ YQ YQ⟩
  ·exact aJ R ((d.base 4 Zx).trans (ay s4)) ⟨aj R R,c.keep 1 264 _ YQ YQ⟩
  ·exact aJ R ((d.base 39 Zx).trans (ay E)) ⟨aj R R,c.keep 2 265 _ YQ YQ⟩
  ·exact cN R (d.slot 1 _ 264 R R (q ⟨1,.data⟩ YR R)) (d.slot 2 _ 265 R R (q ⟨2,.data⟩ YR R)) (gC _ _ _ _ _ _ P) ⟨aj R R,c.keep 3 266 _ YQ YQ⟩
  ·have t:=c.a (d.no [11,6,5] 4 12 Zx C);exact bZ R (d.slot 3 _ 266 R R (q ⟨3,.data⟩ YR R)) (jC _ _ _ ((aA.heap t).2 _ _ hc)) ⟨aj R R,c.keep 4 267 _ YQ YQ⟩
  ·exact aL (Gc R (d.slot 4 _ 267 R R (q ⟨4,.data⟩ YR R)) Q) ⟨aj R R,c.keep 5 268 _ YQ YQ⟩
  ·exact aL (Gj R (d.slot 5 _ 268 R R (q ⟨5,.data⟩ YR R)) R) ⟨aj R R,c.keep 6 269 _ YQ YQ⟩
  ·exact aJ R ((d.base 11 Zx).trans (ay M)) ⟨aj R R,c.keep 7 270 _ YQ YQ⟩
  ·exact aJ R ((d.base 39 Zx).trans (ay E)) ⟨aj R R,c.keep 8 271 _ YQ YQ⟩
  ·exact cN R (d.slot 7 _ 270 R R (q ⟨7,.data⟩ YR R)) (d.slot 8 _ 271 R R (q ⟨8,.data⟩ YR R)) (pR _ _ _ _ _ _ hi YP) ⟨aj R R,c.keep 9 272 _ YQ YQ⟩
  ·have t:=c.a (d.no [11] 10 12 Zx C);exact bZ R (d.slot 9 _ 272 R R (q ⟨9,.data⟩ YR R)) (mQ ((aA.heap t).2 _ _ hx)) ⟨aj R R,c.keep 10 273 _ YQ YQ⟩
  ·exact aL (MD R (d.slot 6 _ 269 R R (q ⟨6,.data⟩ YR R)) (d.slot 10 _ 273 R R (q ⟨10,.data⟩ YR R))) ⟨aj R R,c.keep 11 274 _ YQ YQ⟩
  ·have t:=c.a C;have u:=d.no [] 12 13 Zx C;have G:=d.no [13] 12 14 Zx C;exact aL (Jm R (d.slot 11 _ 274 R R (q ⟨11,.data⟩ YR R))) ⟨aj R (by show _=_;rw[t]),λh=>YS,λ_ _=>(by show J.heap.push _=_;rw[t]),λh=>(by simp_all),λh=>(by simp_all)⟩
  ·have w:=q ⟨12,.data⟩ YR R;have t:=c.b w C;have G:=d.no [] 13 14 Zx C;have x:=ar.push t;have H:J.rangeAt v.heap.size 0 [I2 I3 (B i),I0 I1 L W]:=λF a1 I=>by unfold u0;rw[t,Array.getElem?_push,if_pos R,Nat.zero_add];rw[T]at I;simpa using I
   obtain ⟨val,v3,q1,q2,q3,q4⟩:=(hO.gr (GR.low x none) (D6 _)).app (b:=v.heap.size) 63 H hz YP (Nat.le_trans hb x.1);refine aL (wL R (d.slot 0 _ 263 R R (q ⟨0,.data⟩ YR R)) (d.slot 12 _ 275 R R (q ⟨12,.data⟩ YR R)) q1) ⟨aj R trivial,λh=>(by rw[K 12 YQ,w]at h;cases h),λ_ h=>YS,λ_=> ?_,λh=>(by rw[K 14 YQ,G]at h;cases h)⟩;have he:(l.put (S 276) val).eval (.tmp 276)=val:=by simp[D5,s6,r]
   show Qk k v z i B p.X ((l.put (S 276) val).eval (.tmp 276)) v3;rw[he];refine ⟨q2,(GR.low x _).trans (GR.of q3),λg hg=> ?_⟩;rcases q4 with e | e
   ·grind
   ·rw[e]at hg;cases hg;exact .inr x.1
  ·have u:=q ⟨13,.data⟩ YR R;have w:=d.yes [] 12 Zx u;refine jj R R ⟨aj R trivial,λh=>(by rw[K 12 YQ,w]at h;cases h),λ_ h=>(by rw[K 13 YQ,u]at h;cases h),λ_=> ?_,λ_=> ?_⟩
   ·show Qk k v z i B p.X ((l.put (S 37) (l.eval (.tmp 276))).eval (.tmp 276)) J;rw[show (l.put (S 37) (l.eval (.tmp 276))).eval (.tmp 276)=l.eval (.tmp 276)from A8 YR];exact c.c u
   ·show (l.put (S 37) (l.eval (.tmp 276))).eval (.tmp 37)=(l.put (S 37) (l.eval (.tmp 276))).eval (.tmp 276);rw[show (l.put (S 37) (l.eval (.tmp 276))).eval (.tmp 276)=l.eval (.tmp 276)from A8 YR];simp[D5,s6,r]
 ·intro listed l J d D;have c:=d.world;have r:=d.size.trans s;have hD:=c.c (D 13 YQ);rw[<-c.d (D 14 YQ)]at hD;refine ⟨R,d.defers,r,⟨l.eval (.tmp 37),?_,hD⟩,?_⟩
  ·show l.tmps[37]? =S (l.tmps.getD 37 U);simp_all
  ·have q:=d.defers;obtain ⟨tm,df⟩:=l;dsimp only at q;subst q;exact λf h1 h2=>eH (p:=λf=>f≠37/\(f<263\/276<f)) s r (λf hk=>d.base f YT) f ⟨h1,h2⟩
def St (i f g h j d e B b a m c k l:Nat)(n:q6)(Y:C2):Nat->q6->Prop
 | 277,v=>v=n
 | 278,v=>v= H6 (S ⟨f,g,none⟩) h j
 | 279,v=>v= I2 I3 i
 | 280,v=>v= I4 (S ⟨f,g + i,none⟩)
 | 281,v=>v= .int .u8 d
 | 282,v=>v= I2 I3 d
 | 283,v=>v= I2 I3 ((d % 3:Nat):Int)
 | 284,v=>v= I4 (S ⟨e,d % 3,none⟩)
 | 285,v=>v=ptr B
 | 286,v=>v= H6 (S ⟨b,a,none⟩) m c
 | 287,v=>v= I2 I3 i
 | 288,v=>v= I4 (S ⟨b,a + i,none⟩)
 | 289,v=>v= I0 I1 k l
 | 290,v=>aS v Y
 | _,_=>True
def Ql (v:World)(L:Nat)(C:World->Prop)(w:World):Prop:=GR v w (S L)/\C w
def Sw (v:World)(L:Nat)(C:World->Prop)(Y:C2)(a:q6)(w:World):Prop:= ∃c b r d,Ql v L C c/\ar c w/\a= H6 (S ⟨b,0,none⟩) 1 1/\w.cell? ⟨b,0,none⟩=S (I0 I1 r d)/\aS (I0 I1 r d) Y
def NF (a:Nat)(v:World)(L:Nat)(C:World->Prop)(c:q6)(k:Nat)(f:Nat->C2)(b:q6)(w:World):Prop:= ∃d,Ql v L C d/\fE a w b (k + 1) f/\GR d w c.ownBlock/\ ∀g,b.ownBlock=S g->c.ownBlock=S g\/v.heap.size<=g
structure Qf (v:World)(E:World->Prop)(F D:q6->World->Prop)(listed:Array Bool)(ac:H8)(w:World):Prop where
 a:listed.getD 13 false=false->w.heap=v.heap
 b:listed.getD 13 false=true->listed.getD 14 false=false->E w
 e:listed.getD 14 false=true->listed.getD 15 false=false->F (ac.eval (.tmp 291)) w
 c:listed.getD 15 false=true->D (ac.eval (.tmp 292)) w
 d:listed.getD 16 false=true->ac.eval (.tmp 38)=ac.eval (.tmp 292)
theorem Qf.keep{E:World->Prop}{F:q6->World->Prop}{a:H8}(h:Qf v E F D s a w)(i d:Nat)(u:q6)(f:i≠13/\i≠14/\i≠15/\i≠16)(b:d≠291/\d≠292/\d≠38):Qf v E F D (s.setIfInBounds i true) (a.put (S d) u) w:=by
 have c: ∀ {t},d≠t->(a.put (S d) u).eval (.tmp t)=a.eval (.tmp t):=λ{t} g=>A8 YS;refine ⟨λq=>h.a (fB q),λq e=>h.b (by simp_all) (fB e),λq e=> ?_,λq=> ?_,λq=> ?_⟩
 ·rw[c b.1];exact h.e (by simp_all) (fB e)
 ·rw[c b.2.1];exact h.c (by simp_all)
 ·rw[c b.2.1,c b.2.2];exact h.d (by simp_all)
theorem Pd{q Q T:Nat}(C:y.size=316)(s4:y[4]? =S (H6 (S ⟨j,N,none⟩) p.n4 p.c4))(Z:y[11]? =S (H6 (S ⟨Y,X,none⟩) p.m p.c))(a0:y[29]? =S (ptr W))(a1:y[38]? =S z)(K:y[39]? =S (I2 I3 i))
  (hi:i<p.m)(hm:p.m<=100)(a2:i<p.n4)(hc:v.cell? ⟨j,N + i,none⟩=S (.int .u8 m))(a3:m<256)(hx:v.cell? ⟨Y,X + i,none⟩=S (I0 I1 Q T))(hz:aS (I0 I1 Q T) (p.X i))(a4:v.cell? ⟨W,m % 3,none⟩=S (ptr M))(hC:aF v M L (dj p q) (dt q) (aX p q) g)(hn:dj p q<=16)
  (hf:f i=sE (aX p q) g (bm (dt q) (p.X i)) (dj p q))(hO:fE n v z i f)(hb:n<=v.heap.size)(hL:L<n):
  (C1 49 NM true).wp Try.prog (λe a w'=>e= .normal/\a.defers= []/\(a.tmps.size=316/\(∃val,a.tmps[38]? =S val/\NF n v L (λw=>aF w M L (dj p q) (dt q) (aX p q) (fO (aX p q) g (bm (dt q) (p.X i)) (dj p q))) z i f val w')/\(∀k:Nat,k≠38->k<277\/292<k->a.tmps[k]? =y[k]?))) ⟨y,[]⟩ v:=by
 have e3:NM=NM:=rfl;conv at e3=>rhs;unfold NM zf jw eV dX ek ed dW dv dz gY iv iu gX T9 T8 T7 T6 T5 T3;simp only[Try.f3]
 rw[e3];refine cv (St i j N p.n4 p.c4 m W M Y X p.m p.c Q T z (sE (aX p q) g (bm (dt q) (p.X i)) (dj p q))) (Qf v (Ql v L λw=>aF w M L (dj p q) (dt q) (aX p q) (fO (aX p q) g (bm (dt q) (p.X i)) (dj p q))) (Sw v L (λw=>aF w M L (dj p q) (dt q) (aX p q) (fO (aX p q) g (bm (dt q) (p.X i)) (dj p q))) (sE (aX p q) g (bm (dt q) (p.X i)) (dj p q))) (NF n v L (λw=>aF w M L (dj p q) (dt q) (aX p q) (fO (aX p q) g (bm (dt q) (p.X i)) (dj p q))) z i f)) Zx Zx Zx 316 Zx C ⟨λ_=>rfl,λh=>by simp at h,λh=>by simp at h,λh=>by simp at h,λh=>by simp at h⟩ ?_ ?_
 ·intro listed d O k o c ho E a5 l;have a7:k<17:=by simpa using (q9.1 ho).1
  have b:=c.world;have u:=cz a5 E YP;have A: ∀V,V≠k->(listed.setIfInBounds k true).getD V false=listed.getD V false:=λV hj=>r9 false (Ne.symm hj);have gi:=bS E YP;have r:=c.size.trans C;rcases (by omega:k=0\/k=1\/k=2\/k=3\/k=4\/k=5\/k=6\/k=7\/k=8\/k=9\/k=10\/k=11\/k=12\/k=13\/k=14\/k=15\/k=16)with rfl | rfl | rfl | rfl | rfl | rfl | rfl | rfl | rfl | rfl | rfl | rfl | rfl | rfl | rfl | rfl | rfl
  all_goals obtain rfl:=B5 ho
  ·exact aJ R ((c.pre 16 _ 38 R R (c.no [15] 0 16 Zx u)).trans (ay a1)) ⟨aj R R,b.keep 0 277 _ YQ YQ⟩
  ·exact aJ R ((c.base 4 Zx).trans (ay s4)) ⟨aj R R,b.keep 1 278 _ YQ YQ⟩
  ·exact aJ R ((c.base 39 Zx).trans (ay K)) ⟨aj R R,b.keep 2 279 _ YQ YQ⟩
  ·exact cN R (c.slot 1 _ 278 R R (l ⟨1,.data⟩ YR R)) (c.slot 2 _ 279 R R (l ⟨2,.data⟩ YR R)) (gC _ _ _ _ _ _ a2) ⟨aj R R,b.keep 3 280 _ YQ YQ⟩
  ·have F:=b.a (c.no [8,7,6,5] 4 13 Zx u);exact bZ R (c.slot 3 _ 280 R R (l ⟨3,.data⟩ YR R)) (jC _ _ _ ((aA.heap F).2 _ _ hc)) ⟨aj R R,b.keep 4 281 _ YQ YQ⟩
  ·exact aL (Gc R (c.slot 4 _ 281 R R (l ⟨4,.data⟩ YR R)) a3) ⟨aj R R,b.keep 5 282 _ YQ YQ⟩
  ·exact aL (Gj R (c.slot 5 _ 282 R R (l ⟨5,.data⟩ YR R)) R) ⟨aj R R,b.keep 6 283 _ YQ YQ⟩
  ·exact cN R ((c.base 29 Zx).trans (ay a0)) (c.slot 6 _ 283 R R (l ⟨6,.data⟩ YR R)) (rJ _ _ _ YP) ⟨aj R R,b.keep 7 284 _ YQ YQ⟩
  ·have F:=b.a (c.no [] 8 13 Zx u);exact bZ R (c.slot 7 _ 284 R R (l ⟨7,.data⟩ YR R)) (zK ((aA.heap F).2 _ _ a4)) ⟨aj R R,b.keep 8 285 _ YQ YQ⟩
  ·exact aJ R ((c.base 11 Zx).trans (ay Z)) ⟨aj R R,b.keep 9 286 _ YQ YQ⟩
  ·exact aJ R ((c.base 39 Zx).trans (ay K)) ⟨aj R R,b.keep 10 287 _ YQ YQ⟩
  ·exact cN R (c.slot 9 _ 286 R R (l ⟨9,.data⟩ YR R)) (c.slot 10 _ 287 R R (l ⟨10,.data⟩ YR R)) (pR _ _ _ _ _ _ hi YP) ⟨aj R R,b.keep 11 288 _ YQ YQ⟩
  ·have F:=b.a (c.no [] 12 13 Zx u);exact bZ R (c.slot 11 _ 288 R R (l ⟨11,.data⟩ YR R)) (mQ ((aA.heap F).2 _ _ hx)) ⟨aj R R,b.keep 12 289 _ YQ YQ⟩
  ·have F:=b.a u;have t:=c.no [] 13 14 Zx u;have s:=c.no [14] 13 15 Zx u;have B:=c.no [15,14] 13 16 Zx u;refine gw (us:= #[ptr M,I0 I1 Q T]) R (by simp only[p9,q7,q8];rw[show d.eval (.tmp 285)=_ from (c.slot 8 _ 285 R R (l ⟨8,.data⟩ YR R)),show d.eval (.tmp 289)=_ from (c.slot 12 _ 289 R R (l ⟨12,.data⟩ YR R))]) Try.func18 Zx YV ((Aj (hC.heap F) hz hn).mono ?_);rintro e w3 ⟨r1,i1,rfl,q1,q2,q3⟩;exact ⟨_,R,aj R q1,λh=>YS,λ_ _=>⟨(GR.heap F _).trans (GR.of q3),q2⟩,λh=>(by rw[A 14 YQ,t]at h;cases h),λh=>(by rw[A 15 YQ,s]at h;cases h),λh=>(by rw[A 16 YQ,B]at h;cases h)⟩
  ·have x:=l ⟨13,.data⟩ YR R;have J:=b.b x u;have s:=c.no [] 14 15 Zx u;have B:=c.no [15] 14 16 Zx u;have G:aS (d.eval (.tmp 290)) (sE (aX p q) g (bm (dt q) (p.X i)) (dj p q)):=(c.slot 13 _ 290 R R (l ⟨13,.data⟩ YR R));obtain ⟨r1,i1,hp,_⟩:=id G;refine aL (qC R hp) ⟨aj R trivial,λh=>(by rw[A 13 YQ,x]at h;cases h),λ_ h=>(by rw[gi]at h;cases h),λ_ _=> ?_,λh=>(by rw[A 15 YQ,s]at h;cases h),λh=>(by rw[A 16 YQ,B]at h;cases h)⟩;refine ⟨O,O.heap.size,r1,i1,J,ar.alloc _ _,?_,?_,by rw[<-hp];exact G⟩
   ·show (d.put (S 291) (H6 (S ⟨O.heap.size,0,none⟩) 1 1)).eval (.tmp 291)=_;simp[D5,s6,r]
   simp
  ·have t:=l ⟨14,.data⟩ YR R;have x:=c.yes [] 13 Zx t;have B:=c.no [] 15 16 Zx u;obtain ⟨wm,b1,r1,i1,J,D,P,I,hY⟩:=b.e t u;have a6:=hO.gr J.1 (.inr (hO.JA hL));obtain ⟨val,v3,q1,q2,q3,q4⟩:=(a6.gr (GR.low D none) (D6 _)).app 24 I YS YP (Nat.le_trans hb (Nat.le_trans J.1.1 D.1));refine aL (wL R (c.slot 0 _ 277 R R (l ⟨0,.data⟩ YR R)) P q1) ⟨aj R trivial,λh=>(by rw[A 13 YQ,x]at h;cases h),λ_ h=>(by rw[A 14 YQ,t]at h;cases h),λ_ h=>(by rw[gi]at h;cases h),λ_=> ?_,λh=>(by rw[A 16 YQ,B]at h;cases h)⟩;have he:(d.put (S 292) val).eval (.tmp 292)=val:=by simp[D5,s6,r]
   show NF n v L (λw=>aF w M L (dj p q) (dt q) (aX p q) (fO (aX p q) g (bm (dt q) (p.X i)) (dj p q))) z i f ((d.put (S 292) val).eval (.tmp 292)) v3;rw[he];refine ⟨wm,J,q2,(GR.low D _).trans (GR.of q3),λa8 hg=> ?_⟩;rcases q4 with e | e
   ·grind
   ·rw[e]at hg;cases hg;exact .inr (Nat.le_trans J.1.1 D.1)
  ·have s:=l ⟨15,.data⟩ YR R;have t:=c.yes [] 14 Zx s;have x:=c.yes [14] 13 Zx s;refine jj R R ⟨aj R trivial,λh=>(by rw[A 13 YQ,x]at h;cases h),λ_ h=>(by rw[A 14 YQ,t]at h;cases h),λ_ h=>(by rw[A 15 YQ,s]at h;cases h),λ_=> ?_,λ_=> ?_⟩
   ·show NF n v L (λw=>aF w M L (dj p q) (dt q) (aX p q) (fO (aX p q) g (bm (dt q) (p.X i)) (dj p q))) z i f ((d.put (S 38) (d.eval (.tmp 292))).eval (.tmp 292)) O;rw[show (d.put (S 38) (d.eval (.tmp 292))).eval (.tmp 292)=d.eval (.tmp 292)from A8 YR];exact b.c s
   ·show (d.put (S 38) (d.eval (.tmp 292))).eval (.tmp 38)=(d.put (S 38) (d.eval (.tmp 292))).eval (.tmp 292);rw[show (d.put (S 38) (d.eval (.tmp 292))).eval (.tmp 292)=d.eval (.tmp 292)from A8 YR];simp[D5,s6,r]
 ·intro listed d O c H;have b:=c.world;have r:=c.size.trans C;have hD:=b.c (H 15 YQ);rw[<-b.d (H 16 YQ)]at hD;refine ⟨R,c.defers,r,⟨d.eval (.tmp 38),?_,hD⟩,?_⟩
  ·show d.tmps[38]? =S (d.tmps.getD 38 U);simp_all
  ·have l:=c.defers;obtain ⟨tm,df⟩:=d;dsimp only at l;subst l;exact λk h1 h2=>eH (p:=λk=>k≠38/\(k<277\/292<k)) C r (λk hk=>c.base k YT) k ⟨h1,h2⟩
noncomputable def Nz:r3:=match jw with | .seq c _=>c | _=> .skip
noncomputable def NA:r3:=match jw with | .seq _ (.seq c _)=>c | _=> .skip
noncomputable def NB:r3:=match jw with | .seq _ (.seq _ (.seq (.seq c _) _))=>c | _=> .skip
noncomputable def uw:r3:=match jw with | .seq _ (.seq _ (.seq _ c))=>c | _=> .skip
noncomputable def AA:r3:=match zf with | .seq (.seq c _) _=>c | _=> .skip
noncomputable def NC:r3:=match zf with | .seq _ (.seq _ c)=>c | _=> .skip
theorem KO:zf= .seq (.seq AA (.cond (.tmp 260) .skip (.exit 6))) (.seq (.block 7 (.seq (.region 48 NL true) (.region 49 NM true))) NC):=by rfl
theorem Ov:jw= .seq Nz (.seq NA (.seq (.seq NB (.block 6 (.loop zf))) uw)):=by rfl
section
variable {vl vs vw:Value}
theorem RD (b:M3 u p)(c:u 23= H6 (S ⟨i,0,none⟩) p.m p.m)(d:u 25= H6 (S ⟨k,0,none⟩) p.m p.m)(f:u 27=ptr n)(g:u 28=ptr j)(h:u 29=ptr N)(l:u 31=z)(m:u 32=q):
  Nz.wp Try.prog (λe a o=>e= .normal/\a.defers= []/\(Fr p [(23,H6 (S ⟨i,0,none⟩) p.m p.m),(25,H6 (S ⟨k,0,none⟩) p.m p.m),(27,ptr n),(28,ptr j),(29,ptr N),(31,z),(32,q),(37,.slice none 0 0)] a.tmps/\o.heap=v.heap)) ⟨dq u,[]⟩ v:=by
 have e:Nz=Nz:=rfl;conv at e=>rhs;unfold Nz jw eV dX ek ed dW dv dz gY iv iu gX T9 T8 T7 T6 T5 T3;simp only[Try.f3]
 rw[e,bf u,b.s3,b.s4,b.eX,b.fQ,b.fS,b.gN,b.fR,c,d,f,g,h,l,m];clear e b c d f g h l m;unfold ptr;go_wp2
 exact ⟨_,aM R,⟨R,R,R,R,R,R,R⟩,R,R,R,R,R,R,R,R,trivial⟩
theorem RE (b:M3 u p)(c:u 23= H6 (S ⟨i,0,none⟩) p.m p.m)(d:u 25= H6 (S ⟨k,0,none⟩) p.m p.m)(f:u 27=ptr n)(g:u 28=ptr j)(h:u 29=ptr N)(l:u 31=vl)(m:u 32=vs)(o:u 37=z):
  NA.wp Try.prog (λe a q=>e= .normal/\a.defers= []/\(Fr p [(23,H6 (S ⟨i,0,none⟩) p.m p.m),(25,H6 (S ⟨k,0,none⟩) p.m p.m),(27,ptr n),(28,ptr j),(29,ptr N),(31,vl),(32,vs),(37,z),(38,.slice none 0 0)] a.tmps/\q.heap=v.heap)) ⟨dq u,[]⟩ v:=by
 have e:NA=NA:=rfl;conv at e=>rhs;unfold NA jw eV dX ek ed dW dv dz gY iv iu gX T9 T8 T7 T6 T5 T3;simp only[Try.f3]
 rw[e,bf u,b.s3,b.s4,b.eX,b.fQ,b.fS,b.gN,b.fR,c,d,f,g,h,l,m,o];clear e b c d f g h l m o;unfold ptr;go_wp2
 exact ⟨_,aM R,⟨R,R,R,R,R,R,R⟩,R,R,R,R,R,R,R,R,R,trivial⟩
theorem RF (b:M3 u p)(c:u 23= H6 (S ⟨i,0,none⟩) p.m p.m)(d:u 25= H6 (S ⟨k,0,none⟩) p.m p.m)(f:u 27=ptr n)(g:u 28=ptr j)(h:u 29=ptr N)(l:u 31=vl)(m:u 32=vs)(o:u 37=z)(r:u 38=q):
  NB.wp Try.prog (λe a s=>e= .normal/\a.defers= []/\(Fr p [(23,H6 (S ⟨i,0,none⟩) p.m p.m),(25,H6 (S ⟨k,0,none⟩) p.m p.m),(27,ptr n),(28,ptr j),(29,ptr N),(31,vl),(32,vs),(37,z),(38,q),(39,I2 I3 ((0:Nat):Int))] a.tmps/\s.heap=v.heap)) ⟨dq u,[]⟩ v:=by
 have e:NB=NB:=rfl;conv at e=>rhs;unfold NB jw eV dX ek ed dW dv dz gY iv iu gX T9 T8 T7 T6 T5 T3;simp only[Try.f3]
 rw[e,bf u,b.s3,b.s4,b.eX,b.fQ,b.fS,b.gN,b.fR,c,d,f,g,h,l,m,o,r];clear e b c d f g h l m o r;unfold ptr;go_wp2
 exact ⟨_,aM R,⟨R,R,R,R,R,R,R⟩,R,R,R,R,R,R,R,R,R,R,trivial⟩
theorem PE (b:M3 u p)(c:u 23= H6 (S ⟨k,0,none⟩) p.m p.m)(d:u 25= H6 (S ⟨n,0,none⟩) p.m p.m)(f:u 27=ptr j)(g:u 28=ptr N)(h:u 29=ptr m)(l:u 31=z)(o:u 32=q)(r:u 37=V)(s:u 38=vw)(t:u 39= I2 I3 i)(A:i<p.n4)(B:i<p.m):
  AA.wp Try.prog (λe a w=>e= .normal/\a.defers= []/\(Fr p [(23,H6 (S ⟨k,0,none⟩) p.m p.m),(25,H6 (S ⟨n,0,none⟩) p.m p.m),(27,ptr j),(28,ptr N),(29,ptr m),(31,z),(32,q),(37,V),(38,vw),(39,I2 I3 i),(260,.bool true)] a.tmps/\w.heap=v.heap)) ⟨dq u,[]⟩ v:=by
 have e:AA=AA:=rfl;conv at e=>rhs;unfold AA zf jw eV dX ek ed dW dv dz gY iv iu gX T9 T8 T7 T6 T5 T3;simp only[Try.f3]
 rw[e,bf u,b.s3,b.s4,b.eX,b.fQ,b.fS,b.gN,b.fR,c,d,f,g,h,l,o,r,s,t];have x:(i:Int)<(p.n4:Int):=YP;have y:(i:Int)<(p.m:Int):=YP;clear e b c d f g h l o r s t;unfold ptr;go_wp2
 exact ⟨_,aM R,⟨R,R,R,R,R,R,R⟩,R,R,R,R,R,R,R,R,R,R,R,trivial⟩
theorem PC (b:M3 u p)(c:u 23= H6 (S ⟨k,0,none⟩) p.m p.m)(d:u 25= H6 (S ⟨n,0,none⟩) p.m p.m)(f:u 27=ptr j)(g:u 28=ptr N)(h:u 29=ptr m)(l:u 31=z)(o:u 32=q)(r:u 37=V)(s:u 38=vw)(t:u 39= I2 I3 i)(A:i<p.n4)(B: ¬i<p.m):
  AA.wp Try.prog (λe a w=>e= .normal/\a.defers= []/\(Fr p [(23,H6 (S ⟨k,0,none⟩) p.m p.m),(25,H6 (S ⟨n,0,none⟩) p.m p.m),(27,ptr j),(28,ptr N),(29,ptr m),(31,z),(32,q),(37,V),(38,vw),(39,I2 I3 i),(260,.bool false)] a.tmps/\w.heap=v.heap)) ⟨dq u,[]⟩ v:=by
 have e:AA=AA:=rfl;conv at e=>rhs;unfold AA zf jw eV dX ek ed dW dv dz gY iv iu gX T9 T8 T7 T6 T5 T3;simp only[Try.f3]
 rw[e,bf u,b.s3,b.s4,b.eX,b.fQ,b.fS,b.gN,b.fR,c,d,f,g,h,l,o,r,s,t];have x:(i:Int)<(p.n4:Int):=YP;have y: ¬ (i:Int)<(p.m:Int):=YP;clear e b c d f g h l o r s t;unfold ptr;go_wp2
 exact ⟨_,aM R,⟨R,R,R,R,R,R,R⟩,R,R,R,R,R,R,R,R,R,R,R,trivial⟩
theorem PD (b:M3 u p)(c:u 23= H6 (S ⟨k,0,none⟩) p.m p.m)(d:u 25= H6 (S ⟨n,0,none⟩) p.m p.m)(f:u 27=ptr j)(g:u 28=ptr N)(h:u 29=ptr m)(l:u 31=z)(o:u 32=q)(r:u 37=V)(s:u 38=vw)(t:u 39= I2 I3 i)(y: ¬i<p.n4):
  AA.wp Try.prog (λe a w=>e= .normal/\a.defers= []/\(Fr p [(23,H6 (S ⟨k,0,none⟩) p.m p.m),(25,H6 (S ⟨n,0,none⟩) p.m p.m),(27,ptr j),(28,ptr N),(29,ptr m),(31,z),(32,q),(37,V),(38,vw),(39,I2 I3 i),(260,.bool false)] a.tmps/\w.heap=v.heap)) ⟨dq u,[]⟩ v:=by
 have e:AA=AA:=rfl;conv at e=>rhs;unfold AA zf jw eV dX ek ed dW dv dz gY iv iu gX T9 T8 T7 T6 T5 T3;simp only[Try.f3]
 rw[e,bf u,b.s3,b.s4,b.eX,b.fQ,b.fS,b.gN,b.fR,c,d,f,g,h,l,o,r,s,t];have x: ¬ (i:Int)<(p.n4:Int):=YP;clear e b c d f g h l o r s t;unfold ptr;go_wp2
 exact ⟨_,aM R,⟨R,R,R,R,R,R,R⟩,R,R,R,R,R,R,R,R,R,R,R,trivial⟩
theorem RG (b:M3 u p)(c:u 23= H6 (S ⟨k,0,none⟩) p.m p.m)(d:u 25= H6 (S ⟨n,0,none⟩) p.m p.m)(f:u 27=ptr j)(g:u 28=ptr N)(h:u 29=ptr m)(l:u 31=z)(o:u 32=q)(r:u 37=V)(s:u 38=vw)(t:u 39= I2 I3 i)(x:i<1000000):
  NC.wp Try.prog (λe a y=>e= .normal/\a.defers= []/\(Fr p [(23,H6 (S ⟨k,0,none⟩) p.m p.m),(25,H6 (S ⟨n,0,none⟩) p.m p.m),(27,ptr j),(28,ptr N),(29,ptr m),(31,z),(32,q),(37,V),(38,vw),(39,I2 I3 ((i + 1:Nat):Int))] a.tmps/\y.heap=v.heap)) ⟨dq u,[]⟩ v:=by
 have e:NC=NC:=rfl;conv at e=>rhs;unfold NC zf jw eV dX ek ed dW dv dz gY iv iu gX T9 T8 T7 T6 T5 T3;simp only[Try.f3]
 rw[e,bf u,b.s3,b.s4,b.eX,b.fQ,b.fS,b.gN,b.fR,c,d,f,g,h,l,o,r,s,t];obtain ⟨T,w⟩: ∃T:Nat,T=i + 1:=⟨_,R⟩;have A:IntKind.i64.wrap ((i:Int) + 1)=(T:Int):=ZA;rw[<-w];clear e b c d f g h l o r s t x w;unfold ptr;go_wp2
 exact ⟨_,aM R,⟨R,R,R,R,R,R,R⟩,R,R,R,R,R,R,R,R,R,R,trivial⟩
end
def dr (p:P3)(t:Nat):Nat:=p.NZ t % 3
def q3 (p:P3):Nat:=min p.n4 p.m
def Jg (p:P3)(t k:Nat):Nat->C2×C2:=if k % 3=2 then oT (dt (k / 3)) (dj p (k / 3)) (aX p (k / 3)) aI (zF (q3 p) (dr p) p.X (k / 3)) (nP (dr p) (k / 3) t)else so p p.m 0 k
theorem FH(k:Nat):Jg p 0 k=so p p.m 0 k:=by
 unfold Jg;split
 ·rename_i h;unfold so;rw[if_neg YP,if_neg YP];rfl
 ·rfl
theorem FE(k:Nat):Jg p (i + 1) k=if k=3 * dr p i + 2 then oT (dt (dr p i)) (dj p (dr p i)) (aX p (dr p i)) aI (zF (q3 p) (dr p) p.X (dr p i)) (nP (dr p) (dr p i) i + 1)else Jg p i k:=by
 unfold Jg;by_cases e:k=3 * dr p i + 2
 ·rw[if_pos e,if_pos YP,show k / 3=dr p i by omega];show oT _ _ _ _ _ (nP (dr p) (dr p i) i + if dr p i=dr p i then 1 else 0)=_;simp
 ·rw[if_neg e];by_cases h:k % 3=2
  ·rw[if_pos h,if_pos h];show oT _ _ _ _ _ (nP (dr p) (k / 3) i + if dr p i=k / 3 then 1 else 0)=_;rw[if_neg YP,Nat.add_zero]
  grind
structure Ke (v:World)(p:P3)(M1 i:Nat)(vt vw:q6):Prop where
 a:iC M1 v vt i (dr p) p.X
 b:fE M1 v vw i (Zy (q3 p) (dr p) (dj p) dt (aX p) p.X)
 d: ∀g,vt.ownBlock=S g->vw.ownBlock≠S g
theorem Ke.heap {v v':World}{p:P3}{M1 i:Nat}{a b:q6}(h:Ke v p M1 i a b)(e:v'.heap=v.heap):Ke v' p M1 i a b:=⟨h.a.gr (GR.heap e none) (D6 _),h.b.gr (GR.heap e none) (D6 _),h.d⟩
theorem R2.JA(h:R2 v p k i z q)(g:GR v w r)(a: ∀x,z.ownBlock=some x\/q.ownBlock=some x->x<n)(b: ∀x,r=some x->n<=x):R2 w p k i z q:=
 ⟨h.a.gr g (by cases r with
  | none=>grind
  | some x=>grind),h.b.gr g (by cases r with
  | none=>grind
  | some x=>grind),h.d⟩
section
variable {iS:aU}{vb:World}{M0 M1:Nat}{L:Nat->Nat}{vl vs:Value}
theorem Ln (a2:W3 vb p)(d9:M0<=M1)(e0: ∀x,vl.ownBlock=S x\/vs.ownBlock=S x->x<M1)
  (K: ∀ρ v F w u y T V (c:Nat),At (E0 e) ρ v F bO w->Ext iS ρ->ar vb v->R2 v p M0 p.m vl vs->Ke v p M1 (q3 p) T V->M3 u p->(u 23= H6 (S ⟨i,0,none⟩) p.m p.m/\u 25= H6 (S ⟨n,0,none⟩) p.m p.m/\u 27=ptr j/\u 28=ptr m/\u 29=ptr W/\u 31=vl/\u 32=vs/\u 37=T/\u 38=V/\u 39= I2 I3 c)->aB ρ (dq u) y->cO a e F (G (ak 3 y t) l) w):
  ∀ (r c:Nat)(ρ:aU)(v:World)(F:aq)(w:World)(u:Nat->Value)(y:Array Value)(T V:Value),c + r=q3 p->At (E0 e) ρ v F bO w->Ext iS ρ->B9 vb v p N M0 (AO j m W) B L (Jg p c)->M1<=v.heap.size->R2 v p M0 p.m vl vs->Ke v p M1 c T V->M3 u p->(u 23= H6 (S ⟨i,0,none⟩) p.m p.m/\u 25= H6 (S ⟨n,0,none⟩) p.m p.m/\u 27=ptr j/\u 28=ptr m/\u 29=ptr W/\u 31=vl/\u 32=vs/\u 37=T/\u 38=V/\u 39= I2 I3 c)->aB ρ (dq u) y->
   cO a e F (G (ak 3 y (.code zf:: .inLoop zf:: .inBlock 6::t)) l) w:=by
 intro r;induction r with
 | zero=>
  intro c ρ v F w u y T V hi d hE h9 e4 hR hT hM ⟨a3,a4,a5,a6,a7,a8,a9,b0,b1,b2⟩ hv;have I:c=q3 p:=YP;rw[KO];refine aa.ah d λw d=> ?_;refine aa.ah d λw d=> ?_;refine dY (Q:=λM v'=>Fr p [(23,H6 (S ⟨i,0,none⟩) p.m p.m),(25,H6 (S ⟨n,0,none⟩) p.m p.m),(27,ptr j),(28,ptr m),(29,ptr W),(31,vl),(32,vs),(37,T),(38,V),(39,I2 I3 c),(260,.bool false)] M/\v'.heap=v.heap) Zx YU YU d hv (λtp=> ?_) ?_
  ·by_cases h4:c<p.n4
   ·exact PC (v:=aK v tp 0) hM a3 a4 a5 a6 a7 a8 a9 b0 b1 b2 h4 (by unfold q3 at I;omega)
   ·exact PD (v:=aK v tp 0) hM a3 a4 a5 a6 a7 a8 a9 b0 b1 b2 h4
  rintro e5 x1 y1 v1 w1 F1 c7 ⟨⟨u1,rfl,o,c9,d0,d1,d2,b3,d3,d4,d5,d6,X,Y,_⟩,C⟩ d Z;refine aa.go d YR (λ_=>bH ((Z.fr 260 YQ Y).mF)) λw d=> ?_;simp only[s7, ↓reduceIte];refine aa.go d YR (λ_=>fe R) λw d=> ?_;rw[I]at hT;exact K e5 v1 F1 w u1 y1 T V c d (hE.trans c7) (h9.lo.trans (ar.heap C)) (hR.gr (GR.heap C none) (λx A=>by cases A)) (hT.heap C) o ⟨c9,d0,d1,d2,b3,d3,d4,d5,d6,X⟩ Z
 | succ r ih=>
  intro c ρ v F w u y T V hi d hE h9 e4 hR hT hM ⟨a3,a4,a5,a6,a7,a8,a9,b0,b1,b2⟩ hv;have a0:=a2.pX;have I:c<q3 p:=YP;have b5:c<p.n4:=by unfold q3 at I;omega
  have b6:c<p.m:=by unfold q3 at I;omega
  obtain ⟨b,b7,e6,xa,xb,e7,e8⟩: ∃b b7,p.ad=S ⟨b,b7,none⟩/\ ∃xa xb,vb.cell? ⟨b,b7 + c,none⟩=S (I0 I1 xa xb)/\aS (I0 I1 xa xb) (p.X c):=by obtain ⟨k5,c',A,h⟩:=a2.list;cases A;obtain ⟨b,b7,z,e1,_,e2,e3⟩:=h c b6;obtain ⟨xa,xb,rfl,_⟩:=id e3;grind
  obtain ⟨b4,o4,e9,_,f0,f1⟩:=a2.RQ c b5;have c2:dr p c<3:=Nat.mod_lt _ YQ;have f2:=a2.oc.few _ c2;rw[KO];refine aa.ah d λw d=> ?_;refine aa.ah d λw d=> ?_;refine dY (Q:=λM v'=>Fr p [(23,H6 (S ⟨i,0,none⟩) p.m p.m),(25,H6 (S ⟨n,0,none⟩) p.m p.m),(27,ptr j),(28,ptr m),(29,ptr W),(31,vl),(32,vs),(37,T),(38,V),(39,I2 I3 c),(260,.bool true)] M/\v'.heap=v.heap) Zx YU YU d hv (λtp=>PE (v:=aK v tp 0) hM a3 a4 a5 a6 a7 a8 a9 b0 b1 b2 b5 b6) ?_;rintro e5 x1 y1 v1 w1 F1 c7 ⟨⟨u1,rfl,o,c9,d0,d1,d2,b3,d3,d4,d5,d6,X,Y,_⟩,C⟩ d Z;refine aa.go d YR (λ_=>bH ((Z.fr 260 YQ Y).mF)) λw d=> ?_;simp only[if_true];refine aa.dh d λw d=> ?_;refine aa.ah d λw d=> ?_;refine aa.aV d λw d=> ?_;refine aa.ah d λw d=> ?_;have d7:=h9.low (v':=v1) YS λx _=>by rw[C]
  have g7:=hR.gr (GR.heap C none) (λx A=>by cases A);have O:=hT.heap C;have c3:M1<=v1.heap.size:=by rw[C];exact e4
  have fg: ∀ (k:Nat){z:Value},k<316->u1 k=z->(dq u1)[k]? =S z:=λk z hk A=>(dE u1 hk).trans (congrArg S A);refine dY (Q:=λM v'=>M.size=316/\(∃val,M[37]? =S val/\iC M1 v' val (c + 1) (dr p) p.X/\GR v1 v' T.ownBlock/\ ∀g,val.ownBlock=S g->T.ownBlock=S g\/v1.heap.size<=g)/\(∀k:Nat,k≠37->k<263\/276<k->M[k]? =(dq u1)[k]?)) Zx YU YU d Z (λtp=>Pc (v:=aK v1 tp 0) (fh u1) (fg 4 YQ (by rw[o.s4,e9])) (fg 11 YQ (by rw[o.eX,e6])) (fg 37 YQ d5) (fg 39 YQ X) b6 a0 b5 (d7.lo.cell f1) f0 (d7.lo.cell e7) e8 R O.a c3) ?_;rintro k6 x2 y2 v2 w2 F2 g8 ⟨f3,⟨E,f4,d8,b8,g9⟩,f5⟩ d h0;obtain ⟨u2,rfl,f6⟩:=nF f3;have f: ∀k:Nat,k≠37->k<100-> ∀ {z},u1 k=z->u2 k=z:=λk h1 h2 {z} A=>f6 k z ((f5 k h1 YP).trans ((dE u1 YP).trans (congrArg S A)));have f7:=O.a.lt;have h3:=O.b.lt;have P:=d7.row b8 (λx A=>Nat.le_trans d9 (f7 x A).1);have h5:=g7.JA b8 e0 (λx A=>(f7 x A).1);have f8:=O.b.beside b8 O.d;have c4: ∀g,E.ownBlock=S g->V.ownBlock≠S g:=λg A e'=>by
   rcases g9 g A with h | h
   ·exact O.d g h e'
   ·have:=(h3 g e').2;omega
  have h6:aF v2 (B (3 * dr p c + 2)) (L (3 * dr p c + 2)) (dj p (dr p c)) (dt (dr p c)) (aX p (dr p c)) (oT (dt (dr p c)) (dj p (dr p c)) (aX p (dr p c)) aI (zF (q3 p) (dr p) p.X (dr p c)) (nP (dr p) (dr p c) c)):=by have:=P.nine.dp (3 * dr p c + 2) YP;unfold Jg at this;rw[if_pos YP,show (3 * dr p c + 2) / 3=dr p c by omega]at this;exact this
  have h7:Zy (q3 p) (dr p) (dj p) dt (aX p) p.X c=sE (aX p (dr p c)) (oT (dt (dr p c)) (dj p (dr p c)) (aX p (dr p c)) aI (zF (q3 p) (dr p) p.X (dr p c)) (nP (dr p) (dr p c) c)) (bm (dt (dr p c)) (p.X c)) (dj p (dr p c)):=by unfold Zy hU;rw[Ea I]
  have h8:fO (aX p (dr p c)) (oT (dt (dr p c)) (dj p (dr p c)) (aX p (dr p c)) aI (zF (q3 p) (dr p) p.X (dr p c)) (nP (dr p) (dr p c) c)) (bm (dt (dr p c)) (p.X c)) (dj p (dr p c))=oT (dt (dr p c)) (dj p (dr p c)) (aX p (dr p c)) aI (zF (q3 p) (dr p) p.X (dr p c)) (nP (dr p) (dr p c) c + 1):=by show _=fO _ _ (bm _ (zF (q3 p) (dr p) p.X (dr p c) (nP (dr p) (dr p c) c))) _;rw[Ea I]
  have k7:=P.top (3 * dr p c + 2) YP;have D:M3 u2 p:=⟨f 3 YQ YQ o.s3,f 4 YQ YQ o.s4,f 11 YQ YQ o.eX,f 12 YQ YQ o.fQ,f 13 YQ YQ o.fS,f 14 YQ YQ o.gN,f 15 YQ YQ o.fR⟩;have a1: ∀ (k:Nat){z:Value},k<316->u2 k=z->(dq u2)[k]? =S z:=λk z hk A=>(dE u2 hk).trans (congrArg S A);have c5:=Nat.le_trans c3 b8.1;refine dY (Q:=λM v'=>M.size=316/\(∃val,M[38]? =S val/\NF M1 v2 (L (3 * dr p c + 2)) (λw=>aF w (B (3 * dr p c + 2)) (L (3 * dr p c + 2)) (dj p (dr p c)) (dt (dr p c)) (aX p (dr p c)) (fO (aX p (dr p c)) (oT (dt (dr p c)) (dj p (dr p c)) (aX p (dr p c)) aI (zF (q3 p) (dr p) p.X (dr p c)) (nP (dr p) (dr p c) c)) (bm (dt (dr p c)) (p.X c)) (dj p (dr p c)))) V c (Zy (q3 p) (dr p) (dj p) dt (aX p) p.X) val v')/\(∀k:Nat,k≠38->k<277\/292<k->M[k]? =(dq u2)[k]?)) Zx YU YU d h0 (λtp=>Pd (v:=aK v2 tp 0) (q:=dr p c) (fh u2) (a1 4 YQ (by rw[D.s4,e9])) (a1 11 YQ (by rw[D.eX,e6])) (a1 29 YQ (f 29 YQ YQ b3)) (a1 38 YQ (f 38 YQ YQ d6)) (a1 39 YQ (f 39 YQ YQ X)) b6 a0 b5 (P.lo.cell f1) f0 (P.lo.cell e7) e8 (P.arr 2 (dr p c) YQ c2) (h6.heap R) f2 h7 f8 c5 YP) ?_;rintro k8 x3 y3 v3 w3 F3 i0 ⟨f9,⟨J,g0,wm,⟨b9,g1⟩,i1,c1,i2⟩,g2⟩ d i3;obtain ⟨u3,rfl,g3⟩:=nF f9;have s: ∀k:Nat,k≠38->k<100-> ∀ {z},u2 k=z->u3 k=z:=λk h1 h2 {z} A=>g3 k z ((g2 k h1 YP).trans ((dE u2 YP).trans (congrArg S A)));have g4:M3 u3 p:=⟨s 3 YQ YQ D.s3,s 4 YQ YQ D.s4,s 11 YQ YQ D.eX,s 12 YQ YQ D.fQ,s 13 YQ YQ D.fS,s 14 YQ YQ D.gN,s 15 YQ YQ D.fR⟩;rw[h8]at g1;have i4:=(P.step (k:=3 * dr p c + 2) YP b9 (by rw[show (3 * dr p c + 2) / 3=dr p c by omega];exact g1)).st (st':=Jg p (c + 1)) λk _=>FE k;have i5:=h5.gr b9 (λx A=>YS);have i6:=d8.gr b9 (.inr (d8.JA YP));have c6:=f8.lt;have i7:=d8.lt;have i8:=i4.row c1 (λx A=>Nat.le_trans d9 (c6 x A).1);have i9:=i5.JA c1 e0 (λx A=>(c6 x A).1);have g5:=i6.beside c1 (λx A e'=>c4 x e' A);have g6: ∀g,E.ownBlock=S g->J.ownBlock≠S g:=λg A e'=>by
   rcases i2 g e' with h | h
   ·exact c4 g A h
   ·have:=(i7 g A).2;omega
  refine aa.cd d λw d=> ?_;refine dY (Q:=λM v'=>Fr p [(23,H6 (S ⟨i,0,none⟩) p.m p.m),(25,H6 (S ⟨n,0,none⟩) p.m p.m),(27,ptr j),(28,ptr m),(29,ptr W),(31,vl),(32,vs),(37,E),(38,J),(39,I2 I3 ((c + 1:Nat):Int))] M/\v'.heap=v3.heap) Zx YU YU d i3 (λtp=>RG (v:=aK v3 tp 0) g4 (s 23 YQ YQ (f 23 YQ YQ c9)) (s 25 YQ YQ (f 25 YQ YQ d0)) (s 27 YQ YQ (f 27 YQ YQ d1)) (s 28 YQ YQ (f 28 YQ YQ d2)) (s 29 YQ YQ (f 29 YQ YQ b3)) (s 31 YQ YQ (f 31 YQ YQ d3)) (s 32 YQ YQ (f 32 YQ YQ d4)) (s 37 YQ YQ (f6 37 _ f4)) (g3 38 _ g0) (s 39 YQ YQ (f 39 YQ YQ X)) YP) ?_;rintro j0 x4 y4 v4 w4 F4 j1 ⟨⟨u4,rfl,j2,j3,j4,j5,j6,j7,j8,j9,k0,k1,k2,_⟩,H⟩ d k3;refine aa.dw d λw d=> ?_;rw[<-KO];have k4:Ke v3 p M1 (c + 1) E J:=⟨g5,i1,g6⟩;exact ih (c + 1) j0 v4 F4 w u4 y4 E J YP d (((hE.trans c7).trans g8).trans (i0.trans j1)) (i8.low (by rw[H];omega) λx _=>by rw[H]) (by rw[H];exact Nat.le_trans c5 (Nat.le_trans b9.1 c1.1)) (i9.gr (GR.heap H none) (λx A=>by cases A)) (k4.heap H) j2 ⟨j3,j4,j5,j6,j7,j8,j9,k0,k1,k2⟩ k3
end
theorem lj (i:Nat)(a:Touch):touchAt (#[]:Trace) i≠S a:=by intro h;obtain ⟨x,b,_⟩:=touch_of h;simp at b
def S0 (w:World):Sx:=⟨λ_=>False,w.heap.size,w⟩
theorem gW.start (P:Program)(b:Frame)(e:List Frame)(w:World):gW P (S0 w) (.all w.heap.size (S0 w)) #[G b e] w #[] (G b e) w.heap.size where
 main:=⟨G b e,R,R,R⟩
 old i o h0 h:=by grind
 rI:=rfl
 hear i _:=rfl
 led:=⟨λi f x h _ _=>by simp at h,λi a h=>absurd h (lj i a),λg l _ i a h=>absurd h (lj i a),λg l _ i a h=>absurd h (lj i a),λm=>by rintro ⟨i,j,_,⟨a,c,n,_⟩,_⟩;exact lj i a n⟩
 low f d:=by simp at d
 BH:=C3 _
 EA a i h:=by simp[Trace.act?]at h
 gl f d:=by simp at d
 over i g h:=by simp[Trace.g?]at h
 QG:=⟨λ_ h=>h.1,λ_ _ h=>D7 h⟩
 DC b h:=h.1
 zB b k h:=D7 h
 out b h:=D7 h
 slow b h:=D7 h
 pure:=aq.mX _ _
 fr:=⟨C3 _,λ_ _=>rfl,R,R⟩
 nm:=C3 _
theorem Kr:Try.f19.body=S Nd:=Zx
noncomputable def GJ:Array E3:=match uw with | .seq (.region _ o _) _=>o | _=> #[]
noncomputable def AG:r3:=match uw with | .seq _ c=>c | _=> .skip
noncomputable def ND:r3:=match AG with | .seq c _=>c | _=> .skip
theorem Ow:uw= .seq (.region 50 GJ false) AG:=by rfl
theorem Ox:AG= .seq ND .ret:=by rfl
section
variable {ρ:aU}
theorem Lh(C:fT ρ)(f:At (E0 e) ρ v F bO w)(hv:aB ρ (dq u) y)(r:M3 u p)(hW:W3 v p)(D:u 23= H6 (some ⟨i,0,none⟩) p.m p.m)(E:u 25= H6 (some ⟨k,0,none⟩) p.m p.m)(H:u 31=z)(I:u 32=q)(J:u 37= .slice c (q3 p) n)(K:u 38=V)(L:fI v c (q3 p) (dr p) p.X)(M: ∀a8,c=some a8->a8.block<v.heap.size)
  (hK: ∀S' N O F' w' y' o b,S'.lq e->Ext ρ N->At (E0 S') N O F' bO w'->aA v O->dy O b (q3 p) (Zy (q3 p) (dr p) (dj p) dt (aX p) p.X)->M3 o p->o 23= H6 (some ⟨i,0,none⟩) p.m p.m->o 25= H6 (some ⟨k,0,none⟩) p.m p.m->o 31=z->o 32=q->o 37= .slice c (q3 p) n->o 38=V->o 40= H6 (some ⟨b,0,none⟩) (q3 p) (q3 p)->o 41= .int .i64 0->aB N (dq o) y'->cO a S' F' (G (ak 3 y' [.code AG]) l) w'):
  cO a e F (G (ak 3 y [.code (.seq (.region 50 GJ false) AG)]) l) w:=by
 have e9:cut GJ 0 2=cut GJ 0 2:=rfl;conv at e9=>rhs;unfold cut GJ uw jw eV dX ek ed dW dv dz gY iv iu gX T9 T8 T7 T6 T5 T3;simp only[Try.f3,A5,r5,A6]
 have s:cut GJ 3 5=cut GJ 3 5:=rfl;conv at s=>rhs;unfold cut GJ uw jw eV dX ek ed dW dv dz gY iv iu gX T9 T8 T7 T6 T5 T3;simp only[Try.f3,C9,A5,r5,A6]
 refine aa.ah f λw f=> ?_;refine aa.aC f λw f=> ?_;rw[show A3 GJ.size=r7 0 2 ++ (2::(r7 3 5 ++ [])) by kernel_rfl];refine uV (Q:=λx' O=>x'=dq (up u [(294,H6 (some ⟨p.fb,0,none⟩) 3 3),(295,.slice c (q3 p) n),(14,H6 (some ⟨p.fb,0,none⟩) 3 3),(37,.slice c (q3 p) n)])/\O.heap=v.heap) 0 2 Zx Zx Zx YU YU f hv (λtp=> ?_) ?_
 ·rw[e9,bf u,r.gN,J];clear f hv r hW hK C e9 s L M D E H I J K;go_wp2
  exact ⟨Zx,R⟩
 rintro a9 x1 y1 v1 w1 F1 a0 ⟨rfl,A⟩ f x;have j:=aA.heap A;have a1:=hW.av j;refine aa.go f YR (λ_=>fM R R R Try.func19 Zx Kr) λw f=> ?_;have a2:aB a9 #[H6 (some ⟨p.fb,0,none⟩) 3 3,.slice c (q3 p) n] ((#[D1 294,.tmp 295]:Array z9).map (s6 ⟨y1,[]⟩)):=rf (x.fr 294 YQ R) (x.fr 295 YQ R);refine DF (tf:=dr p) (C.ext a0) a1.oc (L.av j) (λa8 b5=>z7 (M a8 b5) j.1) (λt _=>Nat.mod_lt _ YQ) (by have:=hW.pX;unfold q3;omega) YQ YQ ?_ f a2;intro S' b0 v2 F2 w2 b b6 b1 a3 f a4 B hz;rw[bu R];have m:=(aB.mono a3 x).put (d:=some 296) (tO hz (.int .i64 0));change aB b0 ((dq _).setIfInBounds 296 _) _ at m;rw[oK]at m;have g:M3 (up (up u [(294,H6 (some ⟨p.fb,0,none⟩) 3 3),(295,.slice c (q3 p) n),(14,H6 (some ⟨p.fb,0,none⟩) 3 3),(37,.slice c (q3 p) n)]) [(296,.tuple #[H6 (some ⟨b,0,none⟩) (q3 p) (q3 p),.int .i64 0])]) p:=⟨r.s3,r.s4,r.eX,r.fQ,r.fS,R,r.fR⟩;have P:(up (up u [(294,H6 (some ⟨p.fb,0,none⟩) 3 3),(295,.slice c (q3 p) n),(14,H6 (some ⟨p.fb,0,none⟩) 3 3),(37,.slice c (q3 p) n)]) [(296,.tuple #[H6 (some ⟨b,0,none⟩) (q3 p) (q3 p),.int .i64 0])]) 23= H6 (some ⟨i,0,none⟩) p.m p.m:=D;have T:(up (up u [(294,H6 (some ⟨p.fb,0,none⟩) 3 3),(295,.slice c (q3 p) n),(14,H6 (some ⟨p.fb,0,none⟩) 3 3),(37,.slice c (q3 p) n)]) [(296,.tuple #[H6 (some ⟨b,0,none⟩) (q3 p) (q3 p),.int .i64 0])]) 25= H6 (some ⟨k,0,none⟩) p.m p.m:=E;have W:(up (up u [(294,H6 (some ⟨p.fb,0,none⟩) 3 3),(295,.slice c (q3 p) n),(14,H6 (some ⟨p.fb,0,none⟩) 3 3),(37,.slice c (q3 p) n)]) [(296,.tuple #[H6 (some ⟨b,0,none⟩) (q3 p) (q3 p),.int .i64 0])]) 31=z:=H;have X:(up (up u [(294,H6 (some ⟨p.fb,0,none⟩) 3 3),(295,.slice c (q3 p) n),(14,H6 (some ⟨p.fb,0,none⟩) 3 3),(37,.slice c (q3 p) n)]) [(296,.tuple #[H6 (some ⟨b,0,none⟩) (q3 p) (q3 p),.int .i64 0])]) 32=q:=I;have Y:(up (up u [(294,H6 (some ⟨p.fb,0,none⟩) 3 3),(295,.slice c (q3 p) n),(14,H6 (some ⟨p.fb,0,none⟩) 3 3),(37,.slice c (q3 p) n)]) [(296,.tuple #[H6 (some ⟨b,0,none⟩) (q3 p) (q3 p),.int .i64 0])]) 37= .slice c (q3 p) n:=rfl;have Z:(up (up u [(294,H6 (some ⟨p.fb,0,none⟩) 3 3),(295,.slice c (q3 p) n),(14,H6 (some ⟨p.fb,0,none⟩) 3 3),(37,.slice c (q3 p) n)]) [(296,.tuple #[H6 (some ⟨b,0,none⟩) (q3 p) (q3 p),.int .i64 0])]) 38=V:=K;have a5:(up (up u [(294,H6 (some ⟨p.fb,0,none⟩) 3 3),(295,.slice c (q3 p) n),(14,H6 (some ⟨p.fb,0,none⟩) 3 3),(37,.slice c (q3 p) n)]) [(296,.tuple #[H6 (some ⟨b,0,none⟩) (q3 p) (q3 p),.int .i64 0])]) 296= .tuple #[H6 (some ⟨b,0,none⟩) (q3 p) (q3 p),.int .i64 0]:=rfl;generalize up (up u [(294,H6 (some ⟨p.fb,0,none⟩) 3 3),(295,.slice c (q3 p) n),(14,H6 (some ⟨p.fb,0,none⟩) 3 3),(37,.slice c (q3 p) n)]) [(296,.tuple #[H6 (some ⟨b,0,none⟩) (q3 p) (q3 p),.int .i64 0])]=u2 at m g a5 P T W X Y Z;refine uV (Q:=λx' O=>x'=dq (up u2 [(293,.tuple #[H6 (some ⟨b,0,none⟩) (q3 p) (q3 p),.int .i64 0]),(297,H6 (some ⟨b,0,none⟩) (q3 p) (q3 p)),(298,.int .i64 0),(40,H6 (some ⟨b,0,none⟩) (q3 p) (q3 p)),(41,.int .i64 0),(296,.tuple #[H6 (some ⟨b,0,none⟩) (q3 p) (q3 p),.int .i64 0])])/\O.heap=v2.heap) 3 5 Zx Zx Zx YU YU f m (λtp=> ?_) ?_
 ·rw[s,bf u2,a5];clear f hv r hW hK C e9 s x a2 m g B a1 j a4 A P T W X Y Z L M D E H I J K;go_wp2
  exact ⟨Zx,R⟩
 rintro b2 x4 y4 v4 w4 F4 b3 ⟨rfl,a6⟩ f b4;refine aa.aH f λw f=> ?_;have a7:=aA.heap a6;exact hK S' b2 v4 F4 w y4 (up u2 [(293,.tuple #[H6 (some ⟨b,0,none⟩) (q3 p) (q3 p),.int .i64 0]),(297,H6 (some ⟨b,0,none⟩) (q3 p) (q3 p)),(298,.int .i64 0),(40,H6 (some ⟨b,0,none⟩) (q3 p) (q3 p)),(41,.int .i64 0),(296,.tuple #[H6 (some ⟨b,0,none⟩) (q3 p) (q3 p),.int .i64 0])]) b b1 ((a0.trans a3).trans b3) f ((j.trans a4).trans a7) (B.av a7) ⟨g.s3,g.s4,g.eX,g.fQ,g.fS,g.gN,g.fR⟩ P T W X Y Z R R b4
end
section
variable {v:World}{az aw:Option Addr}
theorem mb(h:Still w v):v.heap=w.heap:=C0 λi=>h.block i
def GM (v:World)(a:Option E7)(k:Nat)(f:Nat->C2):Prop:= ∀j,j<k-> ∃b z,a=S ⟨b,0,none⟩/\v.cell? ⟨b,j,none⟩=S z/\aS z (f j)
theorem GM.av(h:GM v c k f)(g:aA v w):GM w c k f:=λj a=>by obtain ⟨b,z,d,e,i⟩:=h j a;exact ⟨b,z,d,g.2 _ _ e,i⟩
theorem RH (d:u 23= H6 (S ⟨i,0,none⟩) p.m p.m)(f:u 25= H6 (S ⟨k,0,none⟩) p.m p.m)(g:u 31= .slice c p.m j)(h:u 32= .slice az p.m N)(l:u 38= .slice aw (q3 p) m)(o:u 40= H6 (S ⟨n,0,none⟩) (q3 p) (q3 p))(q:u 41= .int .i64 0)(I:p.m<=100)
  (x:dy v i p.m (Yp (dj p) dt (aX p) p.X 3))(y:dy v k p.m (Zm (dj p) dt (aX p) p.X 3))(z:dy v n (q3 p) (Zy (q3 p) (dr p) (dj p) dt (aX p) p.X))(A:GM v c p.m (Yp (dj p) dt (aX p) p.X 3))(B:GM v az p.m (Zm (dj p) dt (aX p) p.X 3))(C:GM v aw (q3 p) (Zy (q3 p) (dr p) (dj p) dt (aX p) p.X)):
  ND.wp Try.prog (λe a J=>e= .normal/\a.defers= []/\(a.tmps.size=316/\a.tmps[10]? =S (.bool true))/\J.heap=v.heap) ⟨dq u,[]⟩ v:=by
 have e:ND=ND:=rfl;conv at e=>rhs;unfold ND AG uw jw eV dX ek ed dW dv dz gY iv iu gX T9 T8 T7 T6 T5 T3;simp only[Try.f3]
 rw[e,bf u,d,f,g,h,l,o,q];have K:q3 p<=100:=by unfold q3;omega
 have D:=au λr b=>jB n (q3 p) (q3 p) m aw _ r YP (z.av (aA.heap b)) (C.av (aA.heap b));have E:=au λr b=>jB k p.m p.m N az _ r YP (y.av (aA.heap b)) (B.av (aA.heap b));have F:=au λr b=>jB i p.m p.m j c _ r YP (x.av (aA.heap b)) (A.av (aA.heap b));clear e d f g h l o q I K x y z A B C;go_wp2_with (go_at_call 10;first | (refine (ae F _ rfl).mono ?_;rintro e L ⟨rfl,s⟩;have G:=au (mb s);clear F s) | (refine (ae E _ (ae G)).mono ?_;rintro e M ⟨rfl,t⟩;have H:=au ((mb t).trans (ae G));clear E t) | (refine (ae D _ (ae H)).mono ?_;rintro e O ⟨rfl,w⟩;have P:=au ((mb w).trans (ae H));clear D w))
 assumption
end
section
def CJ (W:World):aq->Goroutine->World->Nat->Prop:=λ_ g w _=> ∃y a,g=G (cP 3 y a) []/\y.getD 10 U= .bool true/\(S0 W).old w
variable {vw:Value}
theorem HZ (m:fT d)(X:e.lq (S0 I))(a:At (E0 e) d v F bO w)(hv:aB d (dq u) y)(hM:M3 u p)(Y:W3 v p)(Z:R2 v p n p.m z q)(hT:Ke v p j (q3 p) V vw)(r1:dy v i p.m (Yp (dj p) dt (aX p) p.X 3))(r2:dy v k p.m (Zm (dj p) dt (aX p) p.X 3))
  (o:u 23= H6 (S ⟨i,0,none⟩) p.m p.m)(r:u 25= H6 (S ⟨k,0,none⟩) p.m p.m)(s:u 31=z)(x:u 32=q)(A:u 37=V)(B:u 38=vw):
  cO (CJ I) e F (G (ak 3 y [.code uw]) []) w:=by
 obtain ⟨ta,tc,rfl,C,D⟩:=hT.a.turns;obtain ⟨al,cl,rfl,o1⟩:=Z.a.form;obtain ⟨az,cs,rfl,o2⟩:=Z.b.form;obtain ⟨aw,cw,rfl,o3⟩:=hT.b.form;rw[Ow];refine Lh m a hv hM Y o r s x A B C D ?_;intro E a0 v1 F1 H y1 u1 b c a1 a f g a2 J K L M _ N O P T;rw[Ox];refine aa.ah a λw a=> ?_;refine dY (Q:=λx' v'=>(x'.size=316/\x'[10]? =S (.bool true))/\v'.heap=v1.heap) Zx YU YU a T (λtp=>RH (v:=aK v1 tp 0) J K L M N O P Y.pX (r1.av f) (r2.av f) g (GM.av o1 f) (GM.av o2 f) (GM.av o3 f)) ?_;rintro a3 x2 y2 v2 w2 F2 a4 ⟨⟨_,l⟩,_⟩ a W;refine aa.pP a λw a=> ?_;refine aa.fin λH hk gs t sl hs=>⟨E,0,gs,H,t,sl,_,_,_,R,hs,_,_,R,(W.ev l).mF,?_⟩;have ho:=hk.ok.2;obtain ⟨e1,e2⟩:E.lq (S0 I):=⟨c.1.trans X.1,c.2.trans X.2⟩;change E.old H at ho;unfold Sx.old at ho ⊢;grind
end
theorem Ot:dv= .seq Nf (.seq Ng (.seq Nh (.seq Ni dX))):=by rfl
section
variable {M0:Nat}{L:Nat->Nat}{vl vs:Value}
theorem Ig {iS:aU}{vb:World}(z:fT iS)(hS:e.lq (S0 I))(f:W3 vb p)(r1:dy vb i p.m (Yp (dj p) dt (aX p) p.X 3))(r2:dy vb k p.m (Zm (dj p) dt (aX p) p.X 3))(a:At (E0 e) d v F bO w)(hE:Ext iS d)(h9:B9 vb v p N M0 (AO n j m) B L (so p p.m 0))(hR:R2 v p M0 p.m vl vs)(hM:M3 u p)
  (hu:u 23= H6 (S ⟨i,0,none⟩) p.m p.m/\u 25= H6 (S ⟨k,0,none⟩) p.m p.m/\u 27=ptr n/\u 28=ptr j/\u 29=ptr m/\u 31=vl/\u 32=vs)(hv:aB d (dq u) y):
  cO (CJ I) e F (G (ak 3 y [.code jw]) []) w:=by
 obtain ⟨A,C,D,E,H,J,K⟩:=hu;rw[Ov];refine aa.ah a λw a=> ?_;refine dY (Q:=λl o=>Fr p [(23,H6 (S ⟨i,0,none⟩) p.m p.m),(25,H6 (S ⟨k,0,none⟩) p.m p.m),(27,ptr n),(28,ptr j),(29,ptr m),(31,vl),(32,vs),(37,.slice none 0 0)] l/\o.heap=v.heap) Zx YU YU a hv (λq=>RD (v:=aK v q 0) hM A C D E H J K) ?_;rintro e5 x1 y1 v1 w1 F1 M ⟨⟨u1,rfl,O,P,T,V,W,X,Y,Z,a0,_⟩,e2⟩ a a1;refine aa.ah a λw a=> ?_;refine dY (Q:=λl o=>Fr p [(23,H6 (S ⟨i,0,none⟩) p.m p.m),(25,H6 (S ⟨k,0,none⟩) p.m p.m),(27,ptr n),(28,ptr j),(29,ptr m),(31,vl),(32,vs),(37,.slice none 0 0),(38,.slice none 0 0)] l/\o.heap=v1.heap) Zx YU YU a a1 (λq=>RE (v:=aK v1 q 0) O P T V W X Y Z a0) ?_;rintro e6 x2 y2 v2 w2 F2 a2 ⟨⟨u2,rfl,a3,a4,Jw,a5,a6,a7,a8,a9,b0,b1,_⟩,e3⟩ a b2;refine aa.ah a λw a=> ?_;refine aa.ah a λw a=> ?_;refine dY (Q:=λl o=>Fr p [(23,H6 (S ⟨i,0,none⟩) p.m p.m),(25,H6 (S ⟨k,0,none⟩) p.m p.m),(27,ptr n),(28,ptr j),(29,ptr m),(31,vl),(32,vs),(37,.slice none 0 0),(38,.slice none 0 0),(39,I2 I3 ((0:Nat):Int))] l/\o.heap=v2.heap) Zx YU YU a b2 (λq=>RF (v:=aK v2 q 0) a3 a4 Jw a5 a6 a7 a8 a9 b0 b1) ?_;rintro b3 x3 y3 t w3 F3 b4 ⟨⟨u3,rfl,b5,b6,b7,b8,b9,c1,c2,c3,c4,c5,c6,_⟩,e4⟩ a c7;have r:t.heap=v.heap:=YS;have c9:=((hE.trans M).trans a2).trans b4;have s:B9 vb t p N M0 (AO n j m) B L (Jg p 0):=(h9.low YS λx _=>by rw[r]).st λe7 _=>FH e7;have b:=hR.gr (GR.heap r none) (λx d0=>by cases d0);refine aa.aV a λw a=> ?_;refine aa.dO a λw a=> ?_;refine Ln (iS:=iS) (vb:=vb) (N:=N) (M0:=M0) (M1:=t.heap.size) (B:=B) (L:=L) (vl:=vl) (vs:=vs) f s.m0 (λx h=>h.elim (λh=>(b.a.lt x h).2) λh=>(b.b.lt x h).2) ?_ (q3 p) 0 b3 t F3 w u3 y3 (.slice none 0 0) (.slice none 0 0) YP a c9 s (C3 _) b ⟨iC.nil _ _ _ _,fE.nil _ _ _,λg d0=>by cases d0⟩ b5 ⟨b6,b7,b8,b9,c1,c2,c3,c4,c5,c6⟩ c7;intro e8 v5 F5 w5 u5 y5 vt vw e9 a d1 c d2 d3 d4 ⟨d5,d6,_,_,_,d7,d8,d9,e0,_⟩ e1;exact HZ (z.ext d1) hS a e1 d4 (f.av c.av) d2 d3 (r1.av c.av) (r2.av c.av) d5 d6 d7 d8 d9 e0
theorem Ie (T:fT d)(hS:e.lq (S0 I))(hW:W3 v p)(r1:dy v i p.m (Yp (dj p) dt (aX p) p.X 3))(r2:dy v k p.m (Zm (dj p) dt (aX p) p.X 3))(a:At (E0 e) d v F bO w)(hM:M3 u p)(V:u 23= H6 (S ⟨i,0,none⟩) p.m p.m)(W:u 24= I2 I3 0)(X:u 25= H6 (S ⟨k,0,none⟩) p.m p.m)(Y:u 26= I2 I3 0)(hv:aB d (dq u) y):
  cO (CJ I) e F (G (ak 3 y [.code dv]) []) w:=by
 rw[Ot];refine aa.ah a λw a=> ?_;refine dY (Q:=λc f=>Fr p [(23,H6 (S ⟨i,0,none⟩) p.m p.m),(25,H6 (S ⟨k,0,none⟩) p.m p.m)] c/\f.heap=v.heap) Zx YU YU a hv (λl=>Rf (v:=aK v l 0) hM V W X Y) ?_;rintro j0 x1 y1 b w1 F1 Z ⟨⟨u1,rfl,a0,a1,a2,_⟩,m⟩ a a3;refine aa.ah a λw a=> ?_;refine dY (Q:=λc f=>Fr p [(23,H6 (S ⟨i,0,none⟩) p.m p.m),(25,H6 (S ⟨k,0,none⟩) p.m p.m),(27,ptr b.heap.size)] c/\f.heap=b.heap.push (.cells #[.pointer none,.pointer none,.pointer none] 61)) Zx YU YU a a3 (λl=>Rg (v:=aK b l 0) a0 a1 a2) ?_;rintro j1 x2 y2 n w2 F2 a4 ⟨⟨u2,rfl,a5,a6,Jw,a7,_⟩,o⟩ a a8;refine aa.ah a λw a=> ?_;refine dY (Q:=λc f=>Fr p [(23,H6 (S ⟨i,0,none⟩) p.m p.m),(25,H6 (S ⟨k,0,none⟩) p.m p.m),(27,ptr b.heap.size),(28,ptr n.heap.size)] c/\f.heap=n.heap.push (.cells #[.pointer none,.pointer none,.pointer none] 61)) Zx YU YU a a8 (λl=>Rh (v:=aK n l 0) a5 a6 Jw a7) ?_;rintro j2 x3 y3 A w3 F3 a9 ⟨⟨u3,rfl,b0,b1,b2,b3,b4,_⟩,r⟩ a b5;refine aa.ah a λw a=> ?_;refine dY (Q:=λc f=>Fr p [(23,H6 (S ⟨i,0,none⟩) p.m p.m),(25,H6 (S ⟨k,0,none⟩) p.m p.m),(27,ptr b.heap.size),(28,ptr n.heap.size),(29,ptr A.heap.size)] c/\f.heap=A.heap.push (.cells #[.pointer none,.pointer none,.pointer none] 61)) Zx YU YU a b5 (λl=>Ri (v:=aK A l 0) b0 b1 b2 b3 b4) ?_;rintro j3 x4 y4 C w4 F4 b6 ⟨⟨u4,rfl,b7,b8,b9,c1,c2,c3,_⟩,s⟩ a c4;have z2:n.heap.size=b.heap.size + 1:=by rw[o];simp
 have z3:A.heap.size=b.heap.size + 2:=by rw[r];simp[z2]
 have z4:C.heap.size=b.heap.size + 3:=by rw[s];simp[z3]
 have l2:=ar.push o;have l3:=ar.push r;have l4:=ar.push s;have D:=hW.av (aA.heap m);have q2:C.heap[b.heap.size]? =S (.cells #[.pointer none,.pointer none,.pointer none] 61):=by rw[(l3.trans l4).2 _ YP,o];simp
 have c5:C.heap[n.heap.size]? =S (.cells #[.pointer none,.pointer none,.pointer none] 61):=by rw[l4.2 _ YP,r];simp
 have q4:C.heap[A.heap.size]? =S (.cells #[.pointer none,.pointer none,.pointer none] 61):=by rw[s];simp
 have hL:L0 b C p C.heap.size (AO b.heap.size n.heap.size A.heap.size) (3 * 0) (λ_=>0) (λ_=>0):=by
  refine ⟨(l2.trans l3).trans l4,λt ht=> ?_,C3 _,λt ht=> ?_,λt t' ht j4 j5=> ?_,λt ht=> ?_,λt j _ h=>YP,⟨λP h=>YP,λP h=>YP,λP j h=>YP,λP j h=>YP⟩⟩
  ·rcases (by omega:t=0\/t=1\/t=2)with rfl | rfl | rfl<;>simp only[AO]<;>omega
  ·rcases (by omega:t=0\/t=1\/t=2)with rfl | rfl | rfl<;>simp only[AO]<;>omega
  ·rcases (by omega:t=0\/t=1\/t=2)with rfl | rfl | rfl<;>rcases (by omega:t'=0\/t'=1\/t'=2)with rfl | rfl | rfl<;>simp only[AO]<;>omega
  ·rcases (by omega:t=0\/t=1\/t=2)with rfl | rfl | rfl
   ·exact ⟨_,_,q2,R⟩
   ·exact ⟨_,_,c5,R⟩
   ·exact ⟨_,_,q4,R⟩
 have H:=((Z.trans a4).trans a9).trans b6;rw[Ou];refine aa.ah a λw a=> ?_;refine aa.ah a λw a=> ?_;refine dY (Q:=λc f=>Fr p [(23,H6 (S ⟨i,0,none⟩) p.m p.m),(25,H6 (S ⟨k,0,none⟩) p.m p.m),(27,ptr b.heap.size),(28,ptr n.heap.size),(29,ptr A.heap.size),(30,I2 I3 ((0:Nat):Int))] c/\f.heap=C.heap) Zx YU YU a c4 (λl=>Rj (v:=aK C l 0) b7 b8 b9 c1 c2 c3) ?_;rintro c6 x5 y5 v5 w5 F5 c7 ⟨⟨u5,rfl,c9,d0,d1,d2,d3,d4,d5,_⟩,J⟩ a d6;refine aa.aV a λw a=> ?_;refine aa.dO a λw a=> ?_;refine Li (iS:=d) (vb:=b) D ?_ 3 0 c6 v5 F5 w u5 y5 _ _ R a (H.trans c7) (hL.heap J) c9 ⟨d0,d1,d2,d3,d4⟩ d5 d6;intro j6 v6 F6 w6 u6 y6 B E a d7 d8 d9 ⟨e0,e1,e2,e3,e4⟩ e5;have e6:=(d8.b9 YP).st (st':=so p 0 0) λP _=>FD;refine aa.ah a λw a=> ?_;refine dY (Q:=λc f=>Fr p [(23,H6 (S ⟨i,0,none⟩) p.m p.m),(25,H6 (S ⟨k,0,none⟩) p.m p.m),(27,ptr b.heap.size),(28,ptr n.heap.size),(29,ptr A.heap.size),(31,.slice none 0 0)] c/\f.heap=v6.heap) Zx YU YU a e5 (λl=>Rp (v:=aK v6 l 0) d9 e0 e1 e2 e3 e4) ?_;rintro j7 x7 y7 v7 w7 F7 e7 ⟨⟨u7,rfl,e8,e9,f0,f1,f2,f3,f4,_⟩,i6⟩ a f5;refine aa.ah a λw a=> ?_;refine dY (Q:=λc f=>Fr p [(23,H6 (S ⟨i,0,none⟩) p.m p.m),(25,H6 (S ⟨k,0,none⟩) p.m p.m),(27,ptr b.heap.size),(28,ptr n.heap.size),(29,ptr A.heap.size),(31,.slice none 0 0),(32,.slice none 0 0)] c/\f.heap=v7.heap) Zx YU YU a f5 (λl=>Rq (v:=aK v7 l 0) e8 e9 f0 f1 f2 f3 f4) ?_;rintro j8 x8 y8 v8 w8 F8 f6 ⟨⟨u8,rfl,f7,f8,f9,g0,g1,g2,g3,g4,_⟩,i7⟩ a g5;refine aa.ah a λw a=> ?_;refine aa.ah a λw a=> ?_;refine dY (Q:=λc f=>Fr p [(23,H6 (S ⟨i,0,none⟩) p.m p.m),(25,H6 (S ⟨k,0,none⟩) p.m p.m),(27,ptr b.heap.size),(28,ptr n.heap.size),(29,ptr A.heap.size),(31,.slice none 0 0),(32,.slice none 0 0),(33,I2 I3 ((0:Nat):Int))] c/\f.heap=v8.heap) Zx YU YU a g5 (λl=>Rr (v:=aK v8 l 0) f7 f8 f9 g0 g1 g2 g3 g4) ?_;rintro g6 x9 y9 v9 w9 F9 g7 ⟨⟨u9,rfl,g8,g9,h0,h1,h2,h3,h4,h5,h6,_⟩,i8⟩ a h7;have h8:v9.heap=v6.heap:=YS;refine aa.aV a λw a=> ?_;refine aa.dO a λw a=> ?_;refine Ll (iS:=d) (vb:=b) D ?_ p.m 0 g6 v9 F9 w u9 y9 (.slice none 0 0) (.slice none 0 0) YP a (((d7.trans e7).trans f6).trans g7) (e6.low YS λx _=>by rw[h8]) ⟨fE.nil _ _ _,fE.nil _ _ _,λg j9=>by cases j9⟩ g8 ⟨g9,h0,h1,h2,h3,h4,h5,h6⟩ h7;intro i9 k0 k1 k2 k3 k4 z q k5 a K L M N ⟨h9,i0,i1,i2,i3,i4,i5,_⟩ O;exact Ig T hS D (r1.av (aA.heap m)) (r2.av (aA.heap m)) a K L M N ⟨h9,i0,i1,i2,i3,i4,i5⟩ O
theorem DO (g:fT d)(hS:e.lq (S0 I))(a:At (E0 e) d v F bO w)(hv:aB d (dq u) y)(hM:M3 u p)(z:W3 v p):cO (CJ I) e F (G (ak 3 y [.code T7]) []) w:=by refine KY a hv hM z ?_;intro a2 v1 F1 w1 y1 u1 jb h a j A B C D;refine KZ (g.ext h) a D B (z.av j) A C ?_;intro S2 a3 v2 F2 w2 y2 u2 Rl us l E a H m J K L M;have n:=(z.av j).av H;refine Ld a M J n m K L ?_;intro a4 v3 F3 w3 y3 u3 N a O P Q;have b:=((g.ext h).ext E).ext N;have o:=n.av O;rw[QF,<-Jz];refine Le b a Q P o ?_;intro S4 a5 v4 F4 w4 y4 u4 i q r a T r1 V c f W;have s:=o.av T;rw[Jz];refine Lf (b.ext r) a W V s c f ?_;intro S5 a6 v5 F5 w5 y5 u5 k t X a x r2 Y c f Z a0 a1;exact Ie ((b.ext r).ext X) (⟨t.1.trans (q.1.trans (l.1.trans hS.1)),t.2.trans (q.2.trans (l.2.trans hS.2))⟩) (s.av x) (r1.av x) r2 a Y c f Z a0 a1
end
theorem Mp (a b c d e:q6):(#[a,b,c,d,e] ++ B0 311 U:Array q6)= #[a,b,c,d,e,U,U,U,U,U,U,U,U,U,U,U,U,U,U,U,U,U,U,U,U,U,U,U,U,U,U,U,U,U,U,U,U,U,U,U,U,U,U,U,U,U,U,U,U,U,U,U,U,U,U,U,U,U,U,U,U,U,U,U,U,U,U,U,U,U,U,U,U,U,U,U,U,U,U,U,U,U,U,U,U,U,U,U,U,U,U,U,U,U,U,U,U,U,U,U,U,U,U,U,U,U,U,U,U,U,U,U,U,U,U,U,U,U,U,U,U,U,U,U,U,U,U,U,U,U,U,U,U,U,U,U,U,U,U,U,U,U,U,U,U,U,U,U,U,U,U,U,U,U,U,U,U,U,U,U,U,U,U,U,U,U,U,U,U,U,U,U,U,U,U,U,U,U,U,U,U,U,U,U,U,U,U,U,U,U,U,U,U,U,U,U,U,U,U,U,U,U,U,U,U,U,U,U,U,U,U,U,U,U,U,U,U,U,U,U,U,U,U,U,U,U,U,U,U,U,U,U,U,U,U,U,U,U,U,U,U,U,U,U,U,U,U,U,U,U,U,U,U,U,U,U,U,U,U,U,U,U,U,U,U,U,U,U,U,U,U,U,U,U,U,U,U,U,U,U,U,U,U,U,U,U,U,U,U,U,U,U,U,U,U,U,U,U,U,U,U,U,U,U,U,U,U,U,U,U,U,U,U,U,U,U]:=by simp
theorem LG{x:Array q6}(h:aB d x y)(a:x.size=316): ∃u,(∀ (i:Nat) v,x[i]? =S v->u i=v)/\aB d (dq u) y:=by obtain ⟨u,rfl,b⟩:=nF a;grind
section
variable {W:World}{a1 a2 a4:Option Addr}{PZ NZ:Nat->Nat}
theorem DJ (J:fT d)(hS:e.lq (S0 W))(a:At (E0 e) d v F bO w)(hv:aB d #[.slice c i N,.slice a1 k L,.slice a2 n M,.int .u8 X,.slice a4 j Y] y)(K: ∀g,B g<18446744073709551616)(h:n * 8<=140737488351232)(hb: ∀g,g<n-> ∃b r,a2=S ⟨b,r,none⟩/\b<v.heap.size/\v.cell? ⟨b,r + g,none⟩=S (.int .u64 (B g)))
  (O:i<=140737488351232)(P:k<=140737488351232)(Q:eb v c i E)(T:eb v a1 k PZ)(V:eb v a4 j NZ)(s:X<256):
  cO (CJ W) e F (G (ak 3 (y ++ B0 311 U) [.code B3]) []) w:=by
 have t:=hv.ei 311;rw[Mp]at t;refine KT a t K h hb ?_;rintro c1 v1 F1 w1 y1 c2 c3 ad m c4 Z a o hl hm a0 ⟨c5,c6,c7,c9,a3⟩;refine KU a a3 O P (Q.av o) (T.av o) ?_;intro d0 v2 F2 w2 y2 s0 s1 k0 k1 a5 a6 f0 f1 a7 a a8 x a9 A b0 C D b1;obtain ⟨p0,q0,rfl,_⟩:=id x;obtain ⟨p1,q1,rfl,_⟩:=id A;refine KV a b1 C D ?_;intro d1 v3 F3 w3 y3 fb b2 a b3 b4 b5;refine KX a b5 ?_;intro d2 v4 F4 w4 y4 gb b6 a H b7 b8;obtain ⟨u,q,b9⟩:=LG b8 R;have f:=b3.trans H;have l:=a8.trans f;exact DO (p:=⟨X,a4,j,Y,ad,m,c4,f0,f1,fb,gb,p0,k0,q0,p1,k1,q1,a5,a6,IL B,NZ⟩) ((((J.ext Z).ext a7).ext b2).ext b6) hS a b9 ⟨q 3 _ R,q 4 _ R,q 11 _ R,q 12 _ R,q 13 _ R,q 14 _ R,q 15 _ R⟩
  ⟨hl.av l,λg z I=>f.2 _ _ (C g z I),λg z I=>f.2 _ _ (D g z I),b7,λg z I=>H.2 _ _ (b4 g z I),x.av f,A.av f,a9,b0,hm,a0,V.av (o.trans l),s⟩
end
section
variable {t:Trace}{g:Goroutine}
theorem gW.QP (h:gW P e F T w t g m):Past (NN e) w.heap.size t where
 clean:=h.led.nr
 known:=h.led.knows h.over
 over:=h.over
 hears:=h.rI
 seen op hop:=MemAct.low_mono h.BH (h.low op hop)
theorem gW.Ir (h:gW P e F T w t g m): ∃q,Leavers P t T q:=by
 have a: ∀i,∃q,∀o,0<i->T[i]? =S o->QuitsD P q (Deaf t i) o:=λi=>by
  by_cases c:0<i/\i<T.size
  ·obtain ⟨q,a⟩:=h.old i T[i] c.1 (p8 c.2);exact ⟨q,λo _ b=>by rw[p8 c.2]at b;cases b;exact a⟩
  simp_all
 exact ⟨λi=>C7 (a i),λi o d b=>D8 (a i) o d b,h.hear⟩
theorem rZ (P:Program): ∀ (n:Nat)(m:Machine)(t:Trace),(runNT P n m t).1=runN P n m
 | 0,_,_=>rfl
 | n + 1,m,t=>by
  rw[runNT,runN,step];rcases h:stepT P m with ⟨s,a⟩;cases s with
  | next b=>exact rZ P n b (t ++ a)
  | ended o w=>rfl
theorem xr{Post:q6->World->Prop}{sl:Option (Nat×Nat)}(h:gP P e a T w t sl)
  (z: ∀F g w m,a F g w m-> ∀d,∃v c,stepG P true g (w.at d)= .ended (.done v) (w.at d) c/\(∀j∈c,EvL (NN e) w.heap.size j)/\Post v (w.at d)):
  ∃N b o f k,runNT P (N + 1) (crowd T w sl) t=(.ended o f,k)/\runN P N (crowd T w sl)= .next b/\step P b= .ended o f/\Conc.Good P Post b o f k:=by
 obtain ⟨N,l,p,X,i,F,A,C,y,r,E⟩:=h;obtain ⟨q,G⟩:=r.Ir;obtain ⟨Y,s,H,I⟩:=r.main;obtain ⟨M,b,o,f,k,J,K,L,O⟩:=beside_ends (P:=P) (Shun:=NN e) (B:=p.heap.size) (D:=λ_ _ c=>c= #[]) (Post:=Post) (sl:=i) (n:=0) (λ_ _ c j x Z=>YS) s G r.QP
  (λw2 u=>by obtain ⟨d,rfl⟩:=u;obtain ⟨v,c,Q,V,W⟩:=z F A p C E d;exact ⟨I,v,c,by rw[<-fA,H];exact Q,V,W⟩)
 refine ⟨N + M,b,o,f,k,?_,?_,L,O⟩
 ·rw[Nat.add_assoc,runNT_add,y];exact J
 ·have j:runN P N (crowd T w sl)= .next (crowd l p i):=by rw[<-rZ P N _ t,y]
  rw[runN_add,j];exact K
end
section
open Classical
theorem sW (r:aU): ∀y:Value,∃x,VR r x y
 | .bool b=>⟨_,.bool b⟩
 | .int k n=>⟨_,.int k n⟩
 | .float k b=>⟨_,.float k b⟩
 | .complex k a b=>⟨_,.complex k a b⟩
 | .string s=>⟨_,.string s⟩
 | .pointer a=>⟨_,.qH _ trivial⟩
 | .slice a n c=>⟨_,.qH _ trivial⟩
 | .map a=>⟨_,.qH _ trivial⟩
 | .chan a=>⟨_,.qH _ trivial⟩
 | .func f a b=>⟨_,.qH _ trivial⟩
 | .nilFunc=>⟨_,.nilFunc⟩
 | .iface t v=>⟨_,.qH _ trivial⟩
 | .nilIface=>⟨_,.nilIface⟩
 | .agg c=>by
  have h: ∀i:Nat,∃x,∀y,c[i]? =S y->VR r x y:=λi=>by
   by_cases g:i<c.size
   ·obtain ⟨x,e⟩:=sW r c[i];exact ⟨x,λy d=>by rw[p8 g]at d;cases d;exact e⟩
   simp_all
  exact ⟨.agg ((G3 c.size).map λi=>C7 (h i)),.agg YR λi x y e d=>by grind⟩
 | .tuple c=>by
  have h: ∀i:Nat,∃x,∀y,c[i]? =S y->VR r x y:=λi=>by
   by_cases g:i<c.size
   ·obtain ⟨x,e⟩:=sW r c[i];exact ⟨x,λy d=>by rw[p8 g]at d;cases d;exact e⟩
   simp_all
  exact ⟨.tuple ((G3 c.size).map λi=>C7 (h i)),.tuple YR λi x y e d=>by grind⟩
termination_by y=>SizeOf.sizeOf y
decreasing_by
 all_goals
  have:=Array.sizeOf_get c i g;grind
noncomputable def Lp (r:aU):q6->q6
 | .int k n=> .int k n
 | y=>C7 (sW r y)
theorem Ij (r:aU)(y:q6):VR r (Lp r y) y:=by
 cases y with
 | int k n=>exact .int k n
 | _=>exact D8 (sW r _)
noncomputable def CF (w:World):aU:=(G3 w.heap.size).map λb=>(b,if 0<b/\ ∃c e f,w.heap[b]? =S (.cells c e f)then BK.cells else BK.gone)
theorem gp{d:BK}(h:(CF w)[i]? =S (k,d)):k=i/\i<w.heap.size/\(d= .gone\/d= .cells/\0<i/\ ∃c e f,w.heap[i]? =S (.cells c e f)):=by
 unfold CF at h;rw[z8]at h;obtain ⟨a,g,j⟩:=Option.map_eq_some_iff.1 h;have b:i<w.heap.size:=by have:=(q9.1 g).1;simpa using this
 rw[E2,if_pos b]at g;cases g;by_cases l:0<i/\ ∃c e f,w.heap[i]? =S (.cells c e f)
 ·rw[if_pos l]at j;cases j;exact ⟨R,b,.inr ⟨R,l⟩⟩
 grind
theorem Lq{f:Nat×Nat}(a:0<i)(h:w.heap[i]? =S (.cells y C f)):(CF w)[i]? =S (i,.cells):=by unfold CF;rw[z8,E2,if_pos (aG h)];simp only[B1];simp_all
noncomputable def OK (r:aU):Obj->Obj
 | .cells c e _=> .cells (c.map (Lp r)) e (0,c.size)
 | o=>o
noncomputable def pU (w:World):World:={w with heap:=w.heap.map (OK (CF w))}
theorem nJ{f:Nat×Nat}(h:w.heap[i]? =S (.cells y C f)):(pU w).heap[i]? =S (.cells (y.map (Lp (CF w))) C (0,y.size)):=by show (w.heap.map _)[i]? =_;rw[z8,h];rfl
theorem vy{a:E7}{k:H0}(h:w.cell? a=some (.int k Z)):(pU w).cell? a=some (.int k Z):=by
 unfold u0 at h ⊢;cases b:w.heap[a.block]? with
 | none=>grind
 | some o=>
  cases o with
  | cells c e f=>
   rw[b]at h;rw[nJ b];simp only at h ⊢;split at h
   ·cases h
   ·rename_i d;rw[if_neg d,z8,h];rfl
  | _=>rw[b]at h;cases h
theorem uA(g:0<v.heap.size):At (E0 (S0 v)) (CF v) (pU v) (.all v.heap.size (S0 v)) bO v where
 bQ:=by
  refine ⟨by simp[pU,CF],λi j x k l d n _ _=> ?_,λi x k d _=> ?_,λi x k d o=> ?_,⟨by simpa[CF]using g,g⟩,λb x a=> ?_,λb x a=> ?_⟩
  ·rw[<-(gp d).1,<-(gp n).1]
  ·obtain ⟨rfl,h,_⟩:=gp d;exact h
  ·obtain ⟨rfl,_,h⟩:=gp d;grind
  ·obtain ⟨rfl,_,h⟩:=gp a;rcases h with h | ⟨_,_,c,e,f,h⟩
   ·cases h
   ·refine ⟨_,e,_,c,f,nJ h,h,.inr ⟨YR,λi p q m r=> ?_⟩,λk o _ _=>⟨H5 _,YS⟩⟩;rw[z8,r]at m;cases m;exact Ij _ _
  ·obtain ⟨_,_,h⟩:=gp a;grind
 fp:=by
  refine ⟨λb x a _=> ?_,λb x a s=> ?_,λb x a=> ?_⟩
  ·obtain ⟨rfl,h,_⟩:=gp a;exact ⟨h,λh=>h⟩
  ·obtain ⟨rfl,_,h⟩:=gp a;rcases h with h | ⟨_,_,c,e,f,h⟩
   ·cases h
   ·obtain ⟨u,w,y,t,k,z,A⟩:=s;rw[nJ h]at t;grind
  ·obtain ⟨_,_,h⟩:=gp a;grind
 fg:=xD (λb h=>D7 h) ⟨C3 _,λ_ _=>rfl,R,R⟩
 cells:=λ_ _ h=>h.elim
 held:=pQ _ _
theorem yk (W:World):fT (CF W):=λi x h=>by obtain ⟨_,_,h⟩:=gp h;grind
theorem pF:Try.f3.results= #[.tmp 10]:=Zx
theorem HV:stepG Try.prog true (G (cP 3 y t) []) w= .ended (.done (y.getD 10 U)) w #[]:=by have a:=results_tmp (w:=w) pF y Try.prog;have b:=events_results_tmp (P:=Try.prog) (w:=w) pF y #[];simp[G,cP,stepG,unwind,doReturn,Try.func3,a,b,seen,GStep.after]
theorem Dz(h:y.size=5):Frame.enter Try.prog 3 y .normal=ak 3 (y ++ B0 311 U) [.code B3]:=by unfold Frame.enter ak;rw[Try.func3,h];rfl
theorem AL {W:World}{z A C:Option Addr}{c0 c1 c2 c4 b3:Nat}{K L:Nat->Nat}(h0:0<W.heap.size)(hA: ∀a,c=some a\/z=some a\/A=some a\/C=some a->0<a.block/\ ∃q e f,W.heap[a.block]? =some (.cells q e f))
  (N: ∀r,B r<18446744073709551616)(s:n * 8<=140737488351232)(hb: ∀r,r<n-> ∃b l,A=some ⟨b,l,none⟩/\b<W.heap.size/\W.cell? ⟨b,l + r,none⟩=some (.int .u64 (B r)))
  (O:i<=140737488351232)(P:k<=140737488351232)(Q:eb W c i E)(T:eb W z k K)(V:eb W C j L)(D:b3<256):
  ∃M p o X t',runNT Try.prog (M + 1) (solo (G (Frame.enter Try.prog 3 #[.slice c i c0,.slice z k c1,.slice A n c2,.int .u8 b3,.slice C j c4] .normal) []) W) #[]=(.ended o X,t')/\
   runN Try.prog M (solo (G (Frame.enter Try.prog 3 #[.slice c i c0,.slice z k c1,.slice A n c2,.int .u8 b3,.slice C j c4] .normal) []) W)= .next p/\step Try.prog p= .ended o X/\Conc.Good Try.prog (λv W'=>v= .bool true/\(S0 W).old W') p o X t':=by
 have sl: ∀ {a:Option Addr}(t q:Nat),(∀x,a=some x->0<x.block/\ ∃q e f,W.heap[x.block]? =some (.cells q e f))->VR (CF W) (.slice a t q) (.slice a t q):=λ{a} t q h=>by
  cases a with
  | none=>exact .eQ t q
  | some x=>obtain ⟨H,c',e,f,I⟩:=h x R;exact .slice t q ⟨Lq H I,R,R⟩
 have hv:aB (CF W) #[.slice c i c0,.slice z k c1,.slice A n c2,.int .u8 b3,.slice C j c4] #[.slice c i c0,.slice z k c1,.slice A n c2,.int .u8 b3,.slice C j c4]:=⟨R,λa3 x y J hy=>by
  rw[J]at hy;cases hy;match a3 with
  | 0=>grind
  | 1=>grind
  | 2=>grind
  | 3=>cases J;exact .int _ _
  | 4=>cases J;grind
  | t + 5=>simp at J⟩
 have u: ∀ {a:Option Addr}{t:Nat}{f:Nat->Nat},eb W a t f->eb (pU W) a t f:=λh r Y=>by obtain ⟨b,l,e,H,I,h3⟩:=h r Y;exact ⟨b,l,e,by simpa[pU]using H,I,vy h3⟩
 have hF:=DJ (W:=W) (yk W) ⟨R,R⟩ (uA h0) hv N s (λr Y=>by obtain ⟨b,l,e,H,I⟩:=hb r Y;exact ⟨b,l,e,by simpa[pU]using H,vy I⟩) O P (u Q) (u T) (u V) D;rw[Dz R];obtain ⟨S',hC⟩:=Way.solo (m:=W.heap.size) (aq.dG _) (uA h0).fg.ok hF _ _ none (gW.start Try.prog _ [] W);refine xr hC λF g w m ⟨y,a0,hg,Z,ho⟩ d=>⟨_,#[],by rw[hg];exact HV,λe he=>by simp at he,Z,ho⟩
end
section
open Go.ChangeShapes Go.WideShapes Go.ChangeAt
theorem Try.laidOut:laidOutB Try.prog=true:=Zx
theorem Aq {H:Type}{o:E5×q6->H}{t e:E5}{m:H0}(z:Try.prog.underlying t=S (.slice e))(A:Try.prog.underlying e=S (.int m))(B:Try.prog.cellsOf e=1){d:DataW H}{p:List MemPlace}
  (C:DataW.trod o Try.prog v 0 (λ_=>true) true i t (H6 c k n).cells.toList=S (d,p)):
  ∃Z:List Int,Z.length=k/\(∀j,j<k-> ∃b f,c=S ⟨b,f,none⟩/\b<v.heap.size/\v.cell? ⟨b,f + j,none⟩=S (.int m (Z.getD j 0)))/\(∀q∈Z,(G5 m q).wf=true)/\(k=0\/ ∃r,d= .slice (lits m Z) r):=by
 rcases open_ints z A B C with ⟨h,s⟩ | ⟨a,w,x,D,h,_,I,J,E,s,g,u⟩
 ·simp[H7]at h;simp_all
 ·simp[H7]at h;obtain ⟨rfl,rfl,rfl⟩:=h;simp only[Prod.mk.injEq]at s;obtain ⟨rfl,rfl⟩:=s;simp only[if_true]at E;refine ⟨D.take k,YT,λj K=> ?_,λq F=>u q (List.mem_of_mem_take F),Or.inr ⟨_,R⟩⟩;have y:=g j YP;have G:=g 0 YP;obtain ⟨b,f,r⟩:=a;obtain rfl:r=none:=by simpa[H9]using World.cell?_spot G
  have l:(⟨b,f,none⟩:E7).add j=⟨b,f + j,none⟩:=by unfold H9;split<;>simp_all
  rw[l]at y;refine ⟨b,f,R,World.block_lt_of_cell? v _ y,?_⟩;grind
theorem yi {a:List Int}{k:H0}(c:a.length=i)(d: ∀n∈a,(G5 k n).wf=true)(e: ∀n,(G5 k n).wf=true->0<=n/\n<Z)(j:Nat)(f:j<i):((a.getD j 0).toNat:Int)=a.getD j 0/\a.getD j 0<Z:=by
 have b:j<a.length:=YP;have g:a.getD j 0∈a:=by rw[List.getD_eq_getElem?_getD,List.getElem?_eq_getElem b];exact List.getElem_mem b
 grind
theorem wf_u8 (n:Int)(h:(G5 .u8 n).wf=true):0<=n/\n<256:=by
 have:0<=n/\n<=255:=by simpa[Lit.wf,IntKind.min,IntKind.max,G6,H4]using h
 omega
theorem wf_u64 (n:Int)(h:(G5 .u64 n).wf=true):0<=n/\n<18446744073709551616:=by
 have:0<=n/\n<=18446744073709551615:=by simpa[Lit.wf,IntKind.min,IntKind.max,G6,H4]using h
 omega
end
