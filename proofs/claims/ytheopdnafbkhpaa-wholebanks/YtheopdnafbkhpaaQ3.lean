/- WholeBanks: part 3. -/
import Derived.Test.YtheopdnafbkhpaaQa
import Derived.Test.YtheopdnafbkhpaaQ2
import Derived.Deep.AppendLies
import Derived.Test.YtheopdnafbkhpaaQ1
import Derived.Conc.SmallLaws
import Derived.Conc.RecvAny
import Derived.Laws.OwnMore
import Derived.Laws.MakeOwn
set_option maxRecDepth 100000
set_option maxHeartbeats 8000000
set_option linter.unusedVariables false
set_option linter.unusedSimpArgs false
open Array renaming getElem?_eq_getElem->C9,getElem?_modify->E7,getElem?_push->z8,getElem?_setIfInBounds->C3,replicate->z7
open Bool renaming and_eq_true->I1,false_eq_true->A8
open Classical renaming byContradiction->D4
open False renaming elim->I5
open Go renaming Addr->I8,Calls->C1,Code->G0,Operand->B4,TypeId->I3,Value->x9,cell_of_row->B2,execOp->w8,frozen_of_row->D7,getD_set_ne->z9,heap_alloc_new->C7,info_parts->B1,run_loadVar_mid->I2,run_underlying->G1,stepG->J6,typeInfo->J4,undef->U,yielded->J2,zeroValue->J1
open Go.Act renaming eval->x7,mk->D8
open Go.Addr renaming add_mid->H6
open Go.Addr.mk renaming injEq->I9
open Go.Conc renaming listed->C8,recvd->C4,seen_none->H9,served->G2,stepG_value->D5
open Go.FloatKind renaming f64->J8
open Go.Instr renaming loadAt->C5,makeFunc->I6,storeAt->J0
open Go.IntKind renaming i64->K1
open Go.Joins renaming block_setCell->B5
open Go.Obj renaming cells->A9
open Go.Operand renaming tmp->J3
open Go.Region renaming binds->C6,schedule->E6,wanted->A7
open Go.Result renaming andThen->I7
open Go.RowKit renaming ownsRow_setCell_below->E9
open Go.RowKit.Below renaming heap_alloc->H8,refl->G5
open Go.Sem renaming events_bind->E4
open Go.Value renaming complex->J7,int->J9,pointer->K4,slice->K3
open Go.Value.slice renaming injEq->D6
open Go.World renaming cell?_of_block->z6,cell?->w7,frozen?->A6,setCell->G3
open List renaming ext_getElem?->G8,getD_eq_getElem?_getD->A4,getElem?_append_left->D2,getElem?_cons_succ->E2,getElem?_eq_none->B0,getElem?_eq_some_iff->D1,getElem?_toArray->E8,map_cons->G4,map_nil->H7,map_toArray->D9,mem_append->E5,range->I4,setIfInBounds_toArray->A3,set_cons_succ->B8,set_cons_zero->C0
open Nat renaming le_refl->A2,le_trans->G7,lt_of_lt_of_le->z4,lt_succ_self->I0,zero_add->G6,zero_le->J5
open Option renaming isSome_iff_exists->A0,map_eq_some_iff->E3,map_some->B6,some->S
open Option.some renaming injEq->G9,inj->A5
namespace Go.Proofs.Ytheopdnafbkhpaa
open Go.Conc Go.ConcN Go.RowKit
variable {A J L O m n:Nat}{B:Nat->Nat}{C:Nat->C2×C2}{D:bC}{E:Env}{F:aq}{H:Bool}{I:List Ak}{M:Act}{P:C2}{Q:Addr}{T:Sx}{V:Nat->Nat->Value->Prop}{W:Nat->Prop}{X:Nat->C2}{Y u:Value}{Z x:Operand}{a:aq->Goroutine->World->Nat->Prop}{b:ca->Tr->bC->List Ak->aq->Goroutine->World->Prop}{c:aU}{d:Value->World->Prop}{e:Option Addr}{f:Operand->Value}{g:Nat->Nat->dM}{h:Array Oper}{i:cH}{j:List Value}{k:List Item}{l:List Frame}{o:Oper}{p:Nat->dM}{q:FuncId}{r:List bC}{s:List Nat}{t:TypeId}{v w:World}{y:Array Value}{z:ca}
theorem Zn{p:Prop}(h:p:=by kernel_rfl):p:=h
theorem Zo{p:Prop}(h:p:=by simp[Ph.late]):p:=h
theorem Zp{p:Prop}(h:p:=by unfold maxLen;omega):p:=h
theorem Zq{p:Prop}(h:p:=by go_simp):p:=h
theorem Zr{p:Prop}(h:p:=by rw[IntKind.wrap_i64];omega):p:=h
def Ends (w:World)(A m:Nat):Prop:= ∃c e f,w.heap[A]? =S (.cells c e f)/\c.size=m
theorem qe(h:w.ownsRow m t J (K3 (S ⟨A,0,none⟩) n n) n j):Ends w A (n * J):=by
 rcases h.2 with ⟨c,_⟩ | ⟨g,a,b,c,_,d,f,_,e,_⟩
 ·cases c
 ·obtain ⟨rfl,rfl⟩:A=g/\n=a:=by grind
  exact ⟨b,t,_,d,e⟩
theorem Ends.of_block(h:Ends w A m)(e:v.heap[A]? =w.heap[A]?):Ends v A m:=by obtain ⟨c,t,f,a,b⟩:=h;exact ⟨c,t,f,e.trans a,b⟩
theorem Ends.lt(h:Ends w A m):A<w.heap.size:=by obtain ⟨c,t,f,a,b⟩:=h;grind
theorem Ends.grown{row:Option Nat}(h:Ends w A m)(b:w.grownBy v row)(a:S A≠row):Ends v A m:=h.of_block (b.block A h.lt a)
theorem Ends.apart(h:Ends w A m)(k:Apart w v n L)(a:A≠n)(b:A≠L):Ends v A m:=h.of_block (k.block A h.lt a b)
theorem Ends.alloc {w:World}{A m:Nat}(h:Ends w A m)(o:Obj):Ends (w.alloc o) A m:=h.of_block (by show (w.heap.push o)[A]? =_;rw[z8,if_neg (Nat.ne_of_lt h.lt)])
theorem Ends.setCell {w:World}{A m:Nat}(h:Ends w A m)(a:I8)(v:x9):Ends (w.setCell a v) A m:=by
 by_cases b:A=a.block
 ·obtain ⟨c,t,f,d,e⟩:=h;subst b;refine ⟨if a.spot.isSome then c else c.setIfInBounds a.off v,t,f,?_,?_⟩
  ·unfold G3;simp[E7,d]
  grind
 ·exact h.of_block (cJ w a v b)
theorem Og (B L n z g Y m:Nat)(v:x9)(G:C2)(X:Nat->C2)(a:Nat->dM)(F:Nat->C2×C2)(w:World)(hB:w.rangeAt B 0 [J7 J8 g Y,K3 (S ⟨L,0,none⟩) n z])
  (hg:aS (J7 J8 g Y) G)(Z:bj w v m X)(hm:m<=8796093022208)(H: ∀b C,(∃mm c,v= K3 (S ⟨b,C,none⟩) mm c)->0<m->b≠L)(hL:Links w L n a F)(a0:B≠L)(hn:n<=16)(a1:L<w.heap.size):
  C1 Try.prog 15 #[K4 (S ⟨B,0,none⟩),v] w λe I=> ∃A,e= .returned (K3 (S ⟨A,0,none⟩) m m)/\w.heap.size<=A/\A<I.heap.size/\Ends I A m/\(∀j,j<m-> ∃u,I.cell? ⟨A,j,none⟩=S u/\aS u (hU G n a F X j))/\
   Links I L n a (oT G n a F X m)/\w.grownBy I (S L):=by
 obtain ⟨ad,c,rfl,hc⟩:=Z;obtain ⟨i0,hi,J,K,M⟩:=B1 fY;have Hc:=au hc;have HL:=au hL;have HB:=au hB;have a2:=au H;clear hc hL hB H;go_enter Try.func15,Try.ntmps15
 go_wp2_with (first
  | (refine wpList_make_full _ rfl _ _ 24 rfl w.heap.size 26 i0 (J7 J8 0 0) 1 Try.underlying24 hi J K .i64 .i64 _ _ m rfl rfl rfl rfl (by rw[M];omega) Zp (Nat.le_refl _) ?_;intro w1 p h))
 obtain ⟨N,a3⟩:=dS p;have t:=qe p;rw[Nat.mul_one]at t;rw[Nat.mul_one]at N;clear p hi J K M;go_loopw [15] (λi wr=> ∃k:Nat,k<=m/\i= J9 K1 k/\Links wr L n a (oT G n a F X k)/\w.grownBy wr (S L)/\w.heap.size<wr.heap.size/\wr.there w.heap.size 0 m/\Ends wr w.heap.size m/\ ∀j,j<k-> ∃u,wr.cell? ⟨w.heap.size,j,none⟩=S u/\aS u (hU G n a F X j))
  (λi _=>m - (intOf i).toNat)
 case atStart=>exact ⟨0,Nat.zero_le _,R,(ae HL).grown h a1 YR,⟨h.os,h.tape,h.output,h.size,λk hk _=>h.block k hk YR⟩,a3,N,t,λj hj=>YP⟩
 case round=>
  obtain ⟨k,hk,rfl,q,l,a4,O,P,f⟩:=hrel;by_cases D:k<m
  ·have b0:(k:Int)<(m:Int):=by omega
   obtain ⟨b,C,u,rfl,hb,Q,hu⟩:=ae Hc k D;obtain ⟨x,x',rfl,_⟩:=id hu;have b1:=ae a2 b C ⟨_,_,R⟩ YP;have b2:=l.cell Q YS;have T:wr.rangeAt B 0 [J7 J8 g Y,K3 (S ⟨L,0,none⟩) n z]:=λj v Z=>l.cell (ae HB j v Z) YS;have Hs:=au (nB B L n z g Y x x' G (X k) a (oT G n a F X k) wr T hg hu q a0 hn YP);clear T;have Ho:=au (And.intro f (And.intro l q));have Ht:=au O;have a5:=au P;clear f l q O Q hu P;go_wp2_with fail
   refine (ae Hs).mono ?_;rintro e w2 ⟨y,rfl,V,s,d⟩;obtain ⟨r,r',rfl,_⟩:=id V;have b3:w.heap.size<w2.heap.size:=by have:=d.size;omega
   have E:S w.heap.size≠S L:=by intro e;have:=A5 e;omega
   have o:=bw (ae Ht) d a4 E;have W:(w2.cell? ⟨w.heap.size,k,none⟩).isSome=true:=by have:=(o k D).1;rwa[Nat.zero_add]at this
   have b4:w2.frozen? ⟨w.heap.size,k,none⟩=false:=by have:=(o k D).2;rwa[Nat.zero_add]at this
   obtain ⟨uo,a6⟩:=A0.1 W;have H2:=au (And.intro V (And.intro s (And.intro d o)));clear V s d o W;have b5:=aW;go_wp2
   go_roundw
   case rel=>
    obtain ⟨f,l,q⟩:=ae Ho;obtain ⟨V,s,d,o⟩:=ae H2;refine ⟨k + 1,YP,by go_num,s.setCell YS _,lB (bg l d) (Nat.le_refl _) _,by simp_all,dK o _ _,((ae a5).grown d E).setCell _ _,λj hj=> ?_⟩;by_cases a7:j=k
    ·subst a7;exact ⟨_,iV a6,V⟩
    ·obtain ⟨v,a8,a9⟩:=f j YP;refine ⟨v,?_,a9⟩;rw[gn YR];exact d.cell a8 E
   case measure=>simp[intOf];omega
  ·have:k=m:=by omega
   subst this;go_wp2
   go_ret
   simp_all
theorem Dm (B L n h g g':Nat)(H:Nat->dM)(I:Nat->C2×C2)(w:World)(Z:w.rangeAt B 0 [J7 J8 g g',K3 (S ⟨L,0,none⟩) n h])
  (hL:Links w L n H I)(hn:n<=16)(J:L<w.heap.size):
  C1 Try.prog 32 #[K4 (S ⟨B,0,none⟩)] w λe l=> ∃A,e= .returned (K3 (S ⟨A,0,none⟩) n n)/\w.heap.size<=A/\A<l.heap.size/\cQ l A n I/\Below w.heap.size w l/\l.there A 0 (n * 2)/\Ends l A (n * 2):=by
 obtain ⟨i0,K,m,o,r⟩:=B1 vm;have M:w.cell? ⟨B,1,none⟩=S (K3 (S ⟨L,0,none⟩) n h):=Z 1 _ R;have HL:=au hL;have N:=au M;clear hL Z;go_enter Try.func32,Try.ntmps32
 go_wp2_with (first
  | (refine wpList_make_full _ rfl _ _ 43 rfl w.heap.size 84 i0 (.agg #[c0,c0]) 2 Try.underlying43 K m o .i64 .i64 _ _ n rfl rfl rfl rfl (by rw[r];omega) Zp (Nat.le_refl _) ?_;intro w1 f u;have a3:=u.cell (ae N) YR))
 obtain ⟨O,P⟩:=dS f;have v:=qe f;clear f K m o r;go_loopw [19] (λi wr=> ∃k:Nat,k<=n/\i= J9 K1 k/\Below w.heap.size w wr/\w.heap.size<wr.heap.size/\wr.there w.heap.size 0 (n * 2)/\Ends wr w.heap.size (n * 2)/\cQ wr w.heap.size k I) (λi _=>n - (intOf i).toNat)
 case atStart=>exact ⟨0,Nat.zero_le _,R,fJ u,P,O,v,λi K=>YP⟩
 case round=>
  obtain ⟨k,hk,rfl,c,x,d,y,b⟩:=hrel;by_cases z:k<n
  ·have a0:(k:Int)<(n:Int):=by omega
   obtain ⟨v0,v1,v2,v3,v4,p,q,a,j0,j1,j2,j3,j4,C,D⟩:=((ae HL).below c J).2 k z;obtain ⟨b0,E,rfl,_⟩:=id j0;obtain ⟨b1,Q,rfl,_⟩:=id j1;obtain ⟨b2,T,rfl,_⟩:=id j2;obtain ⟨a1,V,rfl,_⟩:=id j3;obtain ⟨a2,W,rfl,_⟩:=id j4;obtain ⟨s,s',rfl,_⟩:=id C;obtain ⟨t,t',rfl,_⟩:=id D;have l0:wr.cell? ⟨L,k * 7,none⟩=S (J7 J8 b0 E):=a 0 _ R;have l1:=a 1 _ R;have l2:=a 2 _ R;have l3:=a 3 _ R;have l4:=a 4 _ R;have l5:=a 5 _ R;have l6:=a 6 _ R;have F:=d (k * 2) YP;have G:=d (k * 2 + 1) YP;rw[Nat.zero_add]at F G;obtain ⟨ua,a4⟩:=A0.1 F.1;obtain ⟨ub,a5⟩:=A0.1 G.1;have fa:=F.2;have fb:=G.2;have Hj:=au (And.intro C D);have X:=au y;have Y:=au (And.intro c (And.intro d b));have a6:w.heap.size≠wr.heap.size:=YP;clear a j0 j1 j2 j3 j4 C D c d b F G y;have a7:=aW;go_wp2
   go_roundw
   case rel=>obtain ⟨c,d,b⟩:=ae Y;obtain ⟨C,D⟩:=ae Hj;obtain ⟨r1,r2,r3⟩:=FL z d b x C D (A9 #[J7 J8 b0 E,J7 J8 b1 Q,J7 J8 b2 T,J7 J8 a1 V,J7 J8 a2 W,J7 J8 s s',J7 J8 t t'] 86);exact ⟨k + 1,YP,by go_num,c.grown r3 c.size (λj e=>YS),Nat.lt_of_lt_of_le x r3.size,r1,(((ae X).setCell _ _).setCell _ _).alloc _,r2⟩
   case measure=>simp[intOf];omega
  ·have:k=n:=by omega
   subst this;go_wp2
   go_ret
   simp_all
theorem DW (B L n a c r p:Nat)(t:x9)(g:Gu)(b:Nat->dM)(f:Nat->C2×C2)(w:World)(q:de w B (J7 J8 r p) (K3 (S ⟨L,0,none⟩) n a) t g c)(s:Links w L n b f)(u:n<=16)(h:L<w.heap.size):
  C1 Try.prog 14 #[K4 (S ⟨B,0,none⟩)] w λe d=> ∃A,e= .returned (K3 (S ⟨A,0,none⟩) n n)/\w.heap.size<=A/\A<d.heap.size/\cQ d A n f/\Below w.heap.size w d/\d.there A 0 (n * 2)/\Ends d A (n * 2):=by
 have x:=au (Dm B L n a r p b f w (λj v y=>q.2 j v (by have z:j<2:=YS;rcases (by omega:j=0\/j=1)with rfl | rfl<;>exact y)) s u h);clear q s;go_enter Try.func14,Try.ntmps14;go_wp2_with fail
 refine (ae x).mono ?_;rintro e C ⟨A,rfl,i,k,l,m,o⟩;have H:=au (And.intro i (And.intro k (And.intro l (And.intro m o))));clear i k l m o;go_wp2
 go_ret
 obtain ⟨i,k,l,m,o⟩:=ae H;simp_all
theorem OA (N M B L n c m:Nat)(v:x9)(g:Gu)(G:C2)(X:Nat->C2)(a:Nat->dM)(z:Nat->C2×C2)(w:World)(b8:bU w N M B L n G a z g c)(hv:bj w v m X)(l:wO v m B)(s:wO v m L)(hm:m<=8796093022208)(hn:n<=16)(hc:c<=1000000000000000000):
  C1 Try.prog 11 #[K4 (S ⟨B,0,none⟩),v] w λe w'=> ∃A,e= .returned (K3 (S ⟨A,0,none⟩) m m)/\w.heap.size<=A/\A<w'.heap.size/\Ends w' A m/\(∀j,j<m-> ∃u,w'.cell? ⟨A,j,none⟩=S u/\aS u (gT g G n a z X j))/\
   bU w' N M B L n G a (jr g G n a z X m) g (c + gM g G n a z X m)/\Apart w w' B L:=by
 obtain ⟨gr,gi,T,sv,hG,hg,hL,hS,hI,f,h,a3,b1,b2,b3,b4,b5⟩:=b8;obtain ⟨ad,cl,rfl,p⟩:=hv;obtain ⟨i0,hi,a4,a5,a6⟩:=B1 fY;have Hs:=au (ku B L n T c gr gi sv g a z w hG hL hn YP);have H:=au (And.intro hG (And.intro hL (And.intro hS p)));have HO:=au (And.intro hI (And.intro f (And.intro h (And.intro l s))));clear hG hL hS p hI f h l s;go_enter Try.func11,Try.ntmps11
 go_wp2_with fail
 refine (ae Hs).mono ?_;rintro e C ⟨A1,rfl,h1,h2,h3,h4,h5⟩;have H1:=au (And.intro h3 (And.intro h4 h5));have V:=h4.size;clear h3 h4 h5;go_wp2_with (first
  | (refine wpList_make_full _ rfl _ _ 24 rfl C.heap.size 26 i0 (J7 J8 0 0) 1 Try.underlying24 hi a4 a5 .i64 .i64 _ _ m rfl rfl rfl rfl (by rw[a6];omega) Zp (Nat.le_refl _) ?_;intro w2 E t))
 obtain ⟨F,b9⟩:=dS E;have q:=qe E;rw[Nat.mul_one]at q;rw[Nat.mul_one]at F;clear E hi a4 a5 a6;have H2:=au (And.intro t (And.intro q F));clear t F q;go_loopw [18] (λi wr=> ∃k:Nat,k<=m/\i= J9 K1 k/\cQ wr A1 n (jr g G n a z X k)/\wr.there A1 0 (n * 2)/\de wr B (J7 J8 gr gi) (K3 (S ⟨L,0,none⟩) n T) sv g (c + gM g G n a z X k)/\bn wr sv n a/\Apart w wr B A1/\C.heap.size<wr.heap.size/\wr.there C.heap.size 0 m/\Ends wr C.heap.size m/\ ∀j,j<k-> ∃u,wr.cell? ⟨C.heap.size,j,none⟩=S u/\aS u (gT g G n a z X j))
  (λi _=>m - (intOf i).toNat)
 case atStart=>obtain ⟨t,q,F⟩:=ae H2;obtain ⟨h3,h4,h5⟩:=ae H1;obtain ⟨hG,hL,hS,p⟩:=ae H;have c9:=t.size;have a0:=h4.grown t V YR;exact ⟨0,Nat.zero_le _,R,h3.grown t YR,bw h5 t h2 YR,hG.below a0 YP,hS.below a0,.low _ _ a0,b9,F,q,λj hj=>YP⟩
 case round=>
  obtain ⟨k,hk,rfl,q1,q2,q3,q4,y,q6,Q,I,J⟩:=hrel;obtain ⟨hI,f,h,l,s⟩:=ae HO;obtain ⟨a1,W,K,p⟩:=ae H;have c1:6 * n * k<=6 * 16 * 8796093022208:=Nat.mul_le_mul YP YP;have c2:=qB g G n a z X k;by_cases a2:k<m
  ·have c7:(k:Int)<(m:Int):=by omega
   obtain ⟨b,d0,u,rfl,hb,a7,hu⟩:=p k a2;obtain ⟨x,x',rfl,_⟩:=id hu;have d1:=y.cell a7 (l YP _ _ _ _ R) YS;have c3:=au (rH B A1 n (c + gM g G n a z X k) n gr gi x x' _ sv g G (X k) a (jr g G n a z X k) wr q3 hg hu q4 f (K.off h1) q1 q2 YP YP YP hn YP);have HQ:=au (And.intro y (And.intro Q (And.intro I J)));clear q1 q2 q3 q4 y Q J I a7 hu p hI f h l s a1 W K c1 c2;go_wp2_with fail
   refine (ae c3).mono ?_;rintro e w3 ⟨r,r',rfl,hy,s1,s2,s3,s4,s5⟩;obtain ⟨y,Q,I,J⟩:=ae HQ;have c4:=Nat.lt_of_lt_of_le q6 s5.size;have Y:=s5.there Q q6 YP YP;have a8:=I.apart s5 YP YP;have a9:(w3.cell? ⟨C.heap.size,k,none⟩).isSome=true:=by have:=(Y k a2).1;rwa[Nat.zero_add]at this
   have d2:w3.frozen? ⟨C.heap.size,k,none⟩=false:=by have:=(Y k a2).2;rwa[Nat.zero_add]at this
   obtain ⟨uo,c5⟩:=A0.1 a9;have b0: ∀j,j<k-> ∃u,w3.cell? ⟨C.heap.size,j,none⟩=S u/\aS u (gT g G n a z X j):=λj hj=>by obtain ⟨v,O,P⟩:=J j hj;exact ⟨v,s5.cell O (by show C.heap.size≠B;omega) (by show C.heap.size≠A1;omega),P⟩
   have H3:=au (And.intro hy (And.intro s1 (And.intro s2 (And.intro s3 (And.intro s4 (And.intro (y.trans s5) (And.intro Y (And.intro a8 b0))))))));clear hy s1 s2 s3 s4 s5 y Q Y J b0 a9 I a8;have d3:=aW;go_wp2
   go_roundw
   case rel=>
    obtain ⟨hy,s1,s2,s3,s4,s5,Q,I,J⟩:=ae H3;obtain ⟨hI,f,h,l,s⟩:=ae HO;obtain ⟨a1,W,K,p⟩:=ae H;have D:w3.grownBy (w3.setCell ⟨C.heap.size,k,none⟩ (J7 J8 r r')) (S C.heap.size):=bV (o:=k) (cs:= [J7 J8 r r']) (fv _ _);refine ⟨k + 1,YP,by go_num,s1.grown D YS,bw s2 D YP YS,?_,s4.apart (.snd B D) f (K.off V),s5.own (.snd B D) V,Nat.lt_of_lt_of_le c4 D.size,dK Q _ _,I.setCell _ _,λj hj=> ?_⟩
    ·have:=s3.grown D YP YS;rw[Nat.add_assoc]at this;exact this
    ·by_cases c6:j=k
     ·subst c6;exact ⟨_,iV c5,hy⟩
     ·obtain ⟨v,O,P⟩:=J j YP;refine ⟨v,?_,P⟩;rw[gn YR];exact O
   case measure=>simp[intOf];omega
  ·have:k=m:=by omega
   subst this;have b6:=W.apart y YP YP YP;have d4:=y.size;have b7:=au (uN B L n T gr gi A1 n a z (jr g G n a z X k) wr (λj v hv=>q3.2 j v (by have hj:j<2:=YS;rcases (by omega:j=0\/j=1)with rfl | rfl<;>exact hv)) b6 q1 YP a3 hn YP);have HQ:=au (And.intro q3 (And.intro q4 (And.intro y (And.intro Q (And.intro I J)))));clear q1 q2 q3 q4 y Q J I b6 a1 W K p hI f h l s;go_wp2_with fail;refine (ae b7).mono ?_;rintro e w4 ⟨rfl,Z,d⟩;have H4:=au (And.intro Z d);clear Z d;go_wp2;go_ret
   obtain ⟨Z,d⟩:=ae H4;obtain ⟨q3,q4,y,Q,I,J⟩:=ae HQ;obtain ⟨hI,f,h,l,s⟩:=ae HO;have d5:=d.size;refine ⟨C.heap.size,R,V,YP,I.grown d (by intro e;have:=A5 e;omega),λj hj=> ?_,⟨gr,gi,T,sv,q3.grown d YP (by simp_all),hg,Z,q4.apart (.snd B d) f h,hI,f,h,a3,b1,b2,b3,b4,YP⟩,?_⟩
   ·obtain ⟨v,O,P⟩:=J j hj;exact ⟨v,d.cell O (by intro e;have:=A5 e;simp only at this;omega),P⟩
   ·exact ⟨d.os.trans y.os,d.tape.trans y.tape,d.output.trans y.output,YP,λj hj j1 j2=>(d.block j YP (by simp_all)).trans (y.block j hj j1 YP)⟩
theorem Ji{g:Gu}(h:bU w m A J L n P p C g O)(d:n<=16):
  C1 Try.prog 14 #[K4 (S ⟨J,0,none⟩)] w λe b=> ∃a,e= .returned (K3 (S ⟨a,0,none⟩) n n)/\w.heap.size<=a/\a<b.heap.size/\cQ b a n C/\Below w.heap.size w b/\Ends b a (n * 2):=by
 obtain ⟨f,i,c,j,k,x,l,y,z,B,D,o,E,F,G,H,I⟩:=h;exact (DW J L n c O f i j g p C w k l d YP).mono λ_ _ ⟨a,q,r,s,t,u,_,v⟩=>⟨a,q,r,s,t,u,v⟩
theorem Oq (r r' n m:Nat)(v xv:x9)(g:Gu)(G:C2)(X:Nat->C2)(f:Nat->dM)(w:World)(hg:cY (J7 J8 r r'))(hG:aS (J7 J8 r r') G)(hv:bn w v n f)(hx:bj w xv m X)(hn:n<=16)(hm:m<=8796093022208):
  C1 Try.prog 26 #[.agg #[J7 J8 r r',v,.bool g.flush,.bool g.clip,.bool g.mute,xv]] w λe w'=> ∃A K,e= .returned (.agg #[J9 K1 0,K3 (S ⟨A,0,none⟩) m m,K3 (S ⟨K,0,none⟩) n n,.int .u64 (gM g G n f aI X m)])/\w.heap.size<=A/\w.heap.size<=K/\Ends w' A m/\Ends w' K (n * 2)/\
   (∀j,j<m-> ∃u,w'.cell? ⟨A,j,none⟩=S u/\aS u (gT g G n f aI X j))/\cQ w' K n (jr g G n f aI X m)/\Below w.heap.size w w':=by
 obtain ⟨ad,c,rfl,_⟩:=id hv;obtain ⟨ax,cx,rfl,_⟩:=id hx;go_enter Try.func26,Try.ntmps26
 have Hv:=au hv;have Hx:=au hx;clear hv hx;go_wp2_with fail
 obtain ⟨W,C⟩: ∃W,W=(w.alloc (A9 #[J7 J8 r r',.slice ad n c,.bool g.flush,.bool g.clip,.bool g.mute,.slice ax m cx] 35)).alloc (A9 #[J9 K1 0,.slice none 0 0,.slice none 0 0,.int .u64 0] 46):=⟨_,R⟩;rw[<-C];have D:W.heap.size=w.heap.size + 2:=by rw[C];simp
 have l:Below w.heap.size w W:=by rw[C];exact ((G5 _ _).alloc (A2 _) _).alloc YR _
 have hJ:W.heap[w.heap.size]? =S (.cells #[J7 J8 r r',.slice ad n c,.bool g.flush,.bool g.clip,.bool g.mute,.slice ax m cx] 35):=by rw[C];show ((w.heap.push _).push _)[w.heap.size]? =_;simp[z8]
 have a5:W.heap[w.heap.size + 1]? =S (.cells #[J9 K1 0,.slice none 0 0,.slice none 0 0,.int .u64 0] 46):=by rw[C];show ((w.heap.push _).push _)[w.heap.size + 1]? =_;rw[z8,if_pos YR]
 clear C;have E:=(ae Hv).below l;have a2:=bj.CY (ae Hx) l;have a0: ∀B,W.heap.size<=B->wO (.slice ax m cx) m B:=λB hB=>a2.off hB;refine (vh r r' n (.slice ad n c) g G f W hg hG E hn).mono ?_;rintro e w3 ⟨B,L,rfl,F,d⟩;have H:=F.lt;have I:=d.size;have M:=(d.block _ (by omega:w.heap.size<W.heap.size)).trans hJ;have N:=(d.block _ (by omega:w.heap.size + 1<W.heap.size)).trans a5;have O:=a2.CY d;have f5:w3.cell? ⟨w.heap.size,5,none⟩=S (.slice ax m cx):=by simp[w7,M]
 have H3:=au (And.intro F (And.intro M (And.intro N (And.intro O (And.intro l (And.intro d (And.intro H (And.intro D I))))))));clear F M N O l d H D I hJ a5 E a2;go_wp2_with fail
 obtain ⟨F,M,N,O,l,d,H,D,I⟩:=ae H3;refine (OA _ _ B L n 0 m (.slice ax m cx) g G X f aI w3 F O (a0 B YP) (a0 L YP) hm hn YP).mono ?_;rintro e w4 ⟨A,rfl,P,J,a6,x,h,o⟩;have a8:=au a6;clear a6;have Q:=o.size;have T:=(o.block (w.heap.size + 1) YP YP YP).trans N;have H4:=au (And.intro h (And.intro T (And.intro x (And.intro o (And.intro P (And.intro J Q))))));clear F M N O h T x o f5;go_wp2_with fail
 obtain ⟨h,T,x,o,P,J,Q⟩:=ae H4;refine (Ji h hn).mono ?_;rintro e Y ⟨K,rfl,a3,E,Z,s,a7⟩;have a9:=au a7;clear a7;have a4:=s.size;have a1:=h.below s;have a:=(s.block _ (by omega:w.heap.size + 1<w4.heap.size)).trans T;have t: ∀j,j<m-> ∃u,Y.cell? ⟨A,j,none⟩=S u/\aS u (gT g G n f aI X j):=λj hj=>by obtain ⟨u,h1,h2⟩:=x j hj;exact ⟨u,by rw[s.cell (by exact J)];exact h1,h2⟩
 have c0:Y.cell? ⟨w.heap.size + 1,0,none⟩=S (J9 K1 0):=by simp[w7,a]
 have c1:Y.cell? ⟨w.heap.size + 1,1,none⟩=S (.slice none 0 0):=by simp[w7,a]
 have c2:Y.cell? ⟨w.heap.size + 1,2,none⟩=S (.slice none 0 0):=by simp[w7,a]
 have c3:Y.cell? ⟨w.heap.size + 1,3,none⟩=S (.int .u64 0):=by simp[w7,a]
 have z0:Y.frozen? ⟨w.heap.size + 1,0,none⟩=false:=by simp[A6,a]
 have z1:Y.frozen? ⟨w.heap.size + 1,1,none⟩=false:=by simp[A6,a]
 have z2:Y.frozen? ⟨w.heap.size + 1,2,none⟩=false:=by simp[A6,a]
 have z3:Y.frozen? ⟨w.heap.size + 1,3,none⟩=false:=by simp[A6,a]
 have Hc:=au (uI a1);have H5:=au (And.intro Z (And.intro a (And.intro t (And.intro s (And.intro a3 (And.intro E (And.intro a4 (And.intro l (And.intro d (And.intro o (And.intro P (And.intro J (And.intro Q (And.intro D (And.intro I H)))))))))))))));clear Z a t s a3 E a4 a1 h T x o P J Q l d D I H;go_wp2_with (go_at_call 12;refine (ae Hc).mono ?_;rintro e w6 ⟨rfl,rfl⟩)
 obtain ⟨Z,a,t,s,a3,E,a4,l,d,o,P,J,Q,D,I,H⟩:=ae H5;have V:=B5 (B5 (B5 (B5 a (i:=0) (J9 K1 0)) (i:=1) (K3 (S ⟨A,0,none⟩) m m)) (i:=2) (K3 (S ⟨K,0,none⟩) n n)) (i:=3) (.int .u64 (gM g G n f aI X m));obtain ⟨wf,z⟩: ∃wf,wf=((((w6.setCell ⟨w.heap.size + 1,0,none⟩ (J9 K1 0)).setCell ⟨w.heap.size + 1,1,none⟩ (K3 (S ⟨A,0,none⟩) m m)).setCell ⟨w.heap.size + 1,2,none⟩ (K3 (S ⟨K,0,none⟩) n n)).setCell ⟨w.heap.size + 1,3,none⟩ (.int .u64 (gM g G n f aI X m))):=⟨_,R⟩;have y: ∀b,b≠w.heap.size + 1->wf.heap[b]? =w6.heap[b]? :=λb hb=>by rw[z,cJ _ _ _ hb,cJ _ _ _ hb,cJ _ _ _ hb,cJ _ _ _ hb]
 rw[<-z]at V ⊢;simp only[A3,B8,C0]at V;have b1:wf.heap.size=w6.heap.size:=by rw[z];simp
 have b0:Below (w.heap.size + 1) w6 wf:=⟨by rw[z];rfl,by rw[z];rfl,by rw[z];rfl,YP,λk hk=>y k YP⟩;clear z;refine bodyPost_ret (gv R (b:=w.heap.size + 1) R (I2 _ (w.heap.size + 1) 0 46 [J9 K1 0,K3 (S ⟨A,0,none⟩) m m,K3 (S ⟨K,0,none⟩) n n,.int .u64 (gM g G n f aI X m)] _ ?_ Try.underlying46 R vk)) R ?_
 ·intro j v hv;rw[Joins.cell_of_block V,G6,E8];exact hv
 ·refine ⟨A,K,R,YP,YP,((ae a8).of_block (s.block A YP)).of_block (y A YP),(ae a9).of_block (y K YP),λj hj=> ?_,λi hi=> ?_,?_⟩
  ·obtain ⟨u,h1,h2⟩:=t j hj;exact ⟨u,by rw[z6 (w:=w6) (y A YP)];exact h1,h2⟩
  ·obtain ⟨p,q,h1,h2⟩:=Z i hi;exact ⟨p,q,λj v hv=>by rw[z6 (w:=w6) (y K YP)];exact h1 j v hv,h2⟩
  ·have k1:=l.trans (d.mono YP);have k2:=o.below k1 YP YP YP;exact (k2.trans (s.mono YP)).trans (b0.mono YP)
def mB (w:World)(A m:Nat)(f:Nat->C2):Prop:=0<A/\ ∃c e a,w.heap[A]? =S (.cells c e a)/\(0<m->c.size=m)/\ ∀j,j<m-> ∃u,c[j]? =S u/\aS u (f j)
def aA (v v':World):Prop:=v.heap.size<=v'.heap.size/\ ∀a u,v.cell? a=S u->v'.cell? a=S u
theorem aA.refl (v:World):aA v v:=⟨A2 _,λ_ _ h=>h⟩
theorem aA.trans {a b c:World}(h:aA a b)(k:aA b c):aA a c:=⟨G7 h.1 k.1,λx u d=>k.2 x u (h.2 x u d)⟩
def fT (a:aU):Prop:= ∀i x:Nat,a[i]? ≠S (x,.chan)
theorem fT.ext {a:aU}(h:fT c)(k:Ext c a):fT a:=λi x b=>h i x (k.nc i x b)
theorem yW(d:aS u P)(h:VR c Y u):Y=u:=by
 obtain ⟨a,b,rfl,_⟩:=d;cases h with
 | complex=>rfl
 | qH _ h=>exact h.elim
theorem Hh(d:aS u P):VR c u u:=by obtain ⟨a,b,rfl,_⟩:=d;exact .complex _ _ _
theorem At.take(d:At E c v F i w)(B:mB w n m X)(D:fT c)(N:0<m->F.rd n):
  ∃z G b,Ext c z/\At E z G F i w/\aA v G/\z[b]? =S (n,.cells)/\b<G.heap.size/\(∀p,p<v.heap.size->(p≠b\/m=0)\/Dc v p->G.heap[p]? =v.heap[p]?)/\ ∀j,j<m-> ∃u,G.cell? ⟨b,j,none⟩=S u/\aS u (X j):=by
 obtain ⟨W,Y,e,f',B,O,K⟩:=B;rcases Nat.eq_zero_or_pos m with rfl | q
 ·by_cases A: ∃ (f:Nat)(k:BK),c[f]? =S (n,k)/\k≠ .gone
  ·obtain ⟨f,k,g,hk⟩:=A;cases k with
   | gone=>grind
   | chan=>exact absurd g (D f n)
   | num=>obtain ⟨a,a',l,_,L,_⟩:=d.bQ.num f n g;grind
   | cells=>obtain ⟨H,Z,f1,c2,f2,M,_⟩:=d.bQ.cells f n g;exact ⟨c,v,f,.refl _,d,.refl _,g,aG M,λ_ _ _=>rfl,λj o=>absurd o (Nat.not_lt_zero _)⟩
  ·have P: ∀ (f:Nat) k,c[f]? =S (n,k)->k= .gone:=by grind
   have Q:=d.bQ.size;refine ⟨_,_,v.heap.size,gB c n,⟨d.bQ.wQ B W P,d.fp.wQ d.bQ,d.fg,d.cells,d.held⟩,⟨YR,λa u s=> ?_⟩,YS,YR,λp h _=>YS,λj o=>absurd o (Nat.not_lt_zero _)⟩;rw[z6 (w:=v) (by show (v.heap.push _)[a.block]? =_;rw[z8,if_neg (Nat.ne_of_lt (cy s))])];exact s
 replace O:=O q;have hr:=N q;have self: ∀r:aU,aB r Y Y:=λr=>⟨R,λf x y hx hy=>by rw[hx]at hy;cases hy;obtain ⟨u,C,t⟩:=K f YS;rw[hx]at C;cases C;exact Hh t⟩;by_cases A: ∃ (f:Nat)(k:BK),c[f]? =S (n,k)/\k≠ .gone
 ·obtain ⟨f,k,g,hk⟩:=A;cases k with
  | gone=>grind
  | chan=>exact absurd g (D f n)
  | num=>obtain ⟨a,a',l,_,L,_⟩:=d.bQ.num f n g;grind
  | cells=>
   obtain ⟨H,Z,f1,c2,f2,M,L,h3,h4⟩:=d.bQ.cells f n g;rw[B]at L;cases L;have T:=aG M;by_cases I:H= #[]
   ·subst I;refine ⟨c,_,f,.refl _,d.kJ g B (self c) hr,⟨YR,λa u s=> ?_⟩,g,YS,λp _ h=> ?_,λj o=> ?_⟩
    ·by_cases V:a.block=f
     ·subst V;unfold w7 at s;grind
     ·rw[z6 (w:=v) YS];exact s
    ·have a0:f≠p:=λe=>by
      rcases h with h | ⟨H,Z,f1,q1,q2⟩
      ·omega
      ·rw[<-e,M]at q1;cases q1;simp at q2
     grind
    ·obtain ⟨u,C,t⟩:=K j o;refine ⟨u,?_,t⟩;unfold w7;grind
   ·have J:=h3.resolve_left I;refine ⟨c,v,f,.refl _,d,.refl _,g,T,λ_ _ _=>rfl,λj o=> ?_⟩;obtain ⟨u,C,t⟩:=K j o;have a1:j<H.size:=by rw[J.1,O];exact o
    have a2:=yW t (J.2 j H[j] u YR C);refine ⟨u,?_,t⟩;unfold w7;grind
 ·have P: ∀ (f:Nat) k,c[f]? =S (n,k)->k= .gone:=by grind
  have Q:=d.bQ.size;refine ⟨_,_,v.heap.size,gB c n,d.NU B W P (self c) hr,⟨YR,λa u s=> ?_⟩,YS,YR,λp h _=>YS,λj o=> ?_⟩
  ·rw[z6 (w:=v) (by show (v.heap.push _)[a.block]? =_;rw[z8,if_neg (Nat.ne_of_lt (cy s))])];exact s
  ·obtain ⟨u,C,t⟩:=K j o;refine ⟨u,?_,t⟩;unfold w7;grind
structure JG where
 m:Nat
 ns:Nat
 MP:Nat->C2
 st:Nat->C2×C2
 cnt:Nat
abbrev JS:=Option JG
def flat (a:Nat->C2×C2)(j:Nat):C2:=if j % 2=0 then (a (j / 2)).1 else (a (j / 2)).2
def Lo (g:JG)(A a:Nat):List x9:= [J9 K1 0,K3 (S ⟨A,0,none⟩) g.m g.m,K3 (S ⟨a,0,none⟩) g.ns g.ns,.int .u64 g.cnt]
def IB:List x9:= [J9 K1 5,.slice none 0 0,.slice none 0 0,.int .u64 0]
def dy (v:World)(A m:Nat)(f:Nat->C2):Prop:= ∀j,j<m-> ∃u,v.cell? ⟨A,j,none⟩=S u/\aS u (f j)
def lH (js:Nat->JS)(i:Nat)(u:x9)(v:World):Prop:=match js i with
 | some g=> ∃A a,u= .agg (Lo g A a).toArray/\Ends v A g.m/\Ends v a (g.ns * 2)/\dy v A g.m g.MP/\dy v a (g.ns * 2) (flat g.st)
 | none=>u= .agg IB.toArray
theorem yN(h:cQ v m n C):dy v m (n * 2) (flat C):=λj b=>by
 obtain ⟨p,q,a,c,d⟩:=h (j / 2) YP;by_cases e:j % 2=0
 ·have:=a 0 p R;rw[show j / 2 * 2 + 0=j by omega]at this;exact ⟨p,this,by unfold flat;grind⟩
 ·have:=a 1 q R;rw[show j / 2 * 2 + 1=j by omega]at this;exact ⟨q,this,by unfold flat;grind⟩
theorem dy.low {v':World}{f:Nat->C2}(h:dy v A m f)(k:ar v v'):dy v' A m f:=λj a=>by obtain ⟨u,b,c⟩:=h j a;exact ⟨u,k.cell b,c⟩
theorem tu (d:Nat->JS):CN (lH d) where
 low i u v v' h k:=by
  unfold lH at h ⊢;cases b:d i with
  | none=>grind
  | some g=>rw[b]at h;obtain ⟨A,c,e,f,j,l,m⟩:=h;exact ⟨A,c,e,f.of_block (k.2 A f.lt),j.of_block (k.2 c j.lt),l.low k,m.low k⟩
 agg i u v h:=by
  unfold lH at h;cases b:d i with
  | none=>rw[b]at h;exact ⟨IB,h,R,by intro x a;simp[IB]at a;rcases a with rfl | rfl | rfl<;>rfl⟩
  | some g=>rw[b]at h;obtain ⟨A,c,e,_⟩:=h;exact ⟨Lo g A c,e,R,by intro x a;simp[Lo]at a;rcases a with rfl | rfl | rfl | rfl<;>rfl⟩
def nu (js:Nat->JS)(i:Nat)(b:List x9)(S':Nat->Prop)(F:aq)(w:World):Prop:=match js i with
 | some g=> ∃A a,b=Lo g A a/\mB w A g.m g.MP/\mB w a (g.ns * 2) (flat g.st)/\(0<g.m->F.rd A/\ ¬S' A)/\(0<g.ns * 2->F.rd a/\ ¬S' a)
 | none=>b=IB
theorem mB.keep{w1:World}(h:mB w A m X)(k:dD F w w1)(g:0<m->F.rd A):mB w1 A m X:=by
 obtain ⟨b,c,e,d,f,i,l⟩:=h;rcases Nat.eq_zero_or_pos m with rfl | a
 ·obtain ⟨n,o,p⟩:=k.kind A c e d f;exact ⟨b,n,e,o,p,λh=>absurd h (Nat.lt_irrefl _),λj q=>absurd q (Nat.not_lt_zero _)⟩
 ·exact ⟨b,c,e,d,(k.same A (g a)).trans f,i,l⟩
theorem nu.keep {a:Nat->JS}{i:Nat}{us:List x9}{b:Nat->Prop}{F:aq}{w w1:World}(h:nu a i us b F w)(k:dD F w w1):nu a i us b F w1:=by
 unfold nu at h ⊢;cases e:a i with
 | none=>grind
 | some g=>rw[e]at h;obtain ⟨A,f,j,l,m,c,d⟩:=h;exact ⟨A,f,j,l.keep k λh=>(c h).1,m.keep k λh=>(d h).1,c,d⟩
section
variable {ρ:aU}
theorem VR.iO(h:VR c (K3 (S ⟨A,0,none⟩) n m) u): ∃d,u= K3 (S ⟨d,0,none⟩) n m/\c[A]? =S (d,.cells):=by
 cases h with
 | @slice _ b _ _ a=>obtain ⟨e,f,g⟩:=a;simp_all
theorem At.row(d:At E ρ v F i w)(o:ρ[A]? =S (n,.cells))(y:Ends v A m)(B:dy v A m X):mB w n m X/\(0<m->F.rd n/\ ¬E.S n):=by
 obtain ⟨c,e,C,l,D,p,G,f,K⟩:=d.bQ.cells A n o;obtain ⟨L,M,N,s,H⟩:=y;rw[p]at s;cases s;refine ⟨⟨(d.bQ.et A n _ o YQ).2,l,e,D,G,λg=> ?_,λj I=> ?_⟩,λg=> ?_⟩
 ·rcases f with f | f
  ·grind
  ·rw[<-f.1];exact H
 ·obtain ⟨u,q,t⟩:=B j I;have h:c[j]? =S u:=by unfold w7 at q;rw[p]at q;simpa using q
  rcases f with f | f
  ·grind
  ·have r:j<l.size:=by rw[<-f.1];exact aG h
   have x:=f.2 j u l[j] h YR;obtain ⟨a,b,rfl,_⟩:=id t;refine ⟨_,by rw[C9 r],?_⟩;generalize l[j]=z at x;cases x;exact t
 ·have k:=d.fp.dc A n o ⟨c,e,C,p,YP⟩;exact ⟨k,λJ=>(d.fg.out n (.inl J)).2.1 k⟩
variable {N:Nat->JS}
theorem At.left{b:List x9}(h:At E c v F i w)(d:lH N n (.agg j.toArray) v)(t:aB c j.toArray b.toArray):nu N n b E.S F w:=by
 unfold lH at d;unfold nu;have e:j.length=b.length:=by simpa using t.1
 have a: ∀ (k:Nat) x,j[k]? =some x-> ∃y,b[k]? =some y/\VR c x y:=λk x z=>by
  have f:k<b.length:=by rw[<-e];exact (D1.1 z).1
  exact ⟨b[k],by simp[f],t.2 k x b[k] YS (by simp[f])⟩
 cases u:N n with
 | none=>
  rw[u]at d;have:j=IB:=by simpa using d
  subst this;obtain ⟨B,l,c0⟩:=a 0 _ R;obtain ⟨C,m,o⟩:=a 1 _ R;obtain ⟨D,p,q⟩:=a 2 _ R;obtain ⟨G,r,s⟩:=a 3 _ R;cases c0;cases o;cases q;cases s;show b=IB;apply G8;intro k;rcases (by omega:k=0\/k=1\/k=2\/k=3\/4<=k)with rfl | rfl | rfl | rfl | f
  ·exact l
  ·exact m
  ·exact p
  ·exact r
  ·rw[B0 (by rw[<-e];exact f),B0 f]
 | some g=>
  rw[u]at d;obtain ⟨A,H,I,J,K,L,M⟩:=d;have:j=Lo g A H:=by simpa using I
  subst this;obtain ⟨B,l,c0⟩:=a 0 _ R;obtain ⟨C,m,o⟩:=a 1 _ R;obtain ⟨D,p,q⟩:=a 2 _ R;obtain ⟨G,r,s⟩:=a 3 _ R;obtain ⟨O,rfl,P⟩:=o.iO;obtain ⟨Q,rfl,T⟩:=q.iO;cases c0;cases s;obtain ⟨V,W⟩:=h.row P J L;obtain ⟨X,Y⟩:=h.row T K M;refine ⟨O,Q,?_,V,X,W,Y⟩;apply G8;intro k;rcases (by omega:k=0\/k=1\/k=2\/k=3\/4<=k)with rfl | rfl | rfl | rfl | f
  ·exact l
  ·exact m
  ·exact p
  ·exact r
  ·rw[B0 (by rw[<-e];exact f),B0 f]
end
def pn (c:Nat->JS)(i:Nat)(b:List x9)(v:World):Prop:=match c i with
 | some g=> ∃A a,b=Lo g A a/\A<v.heap.size/\a<v.heap.size/\dy v A g.m g.MP/\dy v a (g.ns * 2) (flat g.st)
 | none=>b=IB
theorem dy.av(h:dy v A m X)(k:aA v w):dy w A m X:=λj a=>by obtain ⟨u,b,c⟩:=h j a;exact ⟨u,k.2 _ _ b,c⟩
theorem pn.av {js:Nat->JS}{i:Nat}{us:List x9}{v a:World}(h:pn js i us v)(k:aA v a):pn js i us a:=by
 unfold pn at h ⊢;cases b:js i with
 | none=>grind
 | some g=>rw[b]at h;obtain ⟨A,c,d,j,l,e,f⟩:=h;have:=k.1;exact ⟨A,c,d,YP,YP,e.av k,f.av k⟩
theorem Pt{d e f g h j:x9}(k:VR c u f)(l:VR c Y g)(m:VR c d h)(n:VR c e j):aB c [u,Y,d,e].toArray [f,g,h,j].toArray:=⟨R,λi x y a b=>by
 rcases (by omega:i=0\/i=1\/i=2\/i=3\/4<=i)with rfl | rfl | rfl | rfl | hi
 ·cases a;cases b;exact k
 ·cases a;cases b;exact l
 ·cases a;cases b;exact m
 ·cases a;cases b;exact n
 grind⟩
section
variable {S':Nat->Prop}
variable {N:Nat->JS}
theorem At.NY{H:aq}(r:At E c v F i w)(P: ∀b,b<w.heap.size-> ¬W b->F.rd b)(x:fT c)(s:c[m]? =some (A,.cells))(y: ∃I e Q k q,w.heap[A]? =some (.cells I e Q)/\I[0]? =some (.int k q))(h:nu N n j W H w):
  ∃d t T,Ext c d/\At E d t F i w/\aA v t/\t.heap[m]? =v.heap[m]? /\aB d T.toArray j.toArray/\pn N n T t:=by
 unfold nu at h;unfold pn;cases V:N n with
 | none=>rw[V]at h;dsimp only at h;subst h;exact ⟨c,v,IB,.refl _,r,.refl _,R,Pt (.int _ _) (.eQ _ _) (.eQ _ _) (.int _ _),R⟩
 | some g=>
  rw[V]at h;obtain ⟨a0,S,rfl,J,z,D,Y⟩:=h;have Z: ∀ {X l:Nat}{f:Nat->C2},mB w X l f->X<w.heap.size:=λ⟨_,_,_,_,h,_⟩=>aG h;have B:m<v.heap.size:=by rw[r.bQ.size];exact dP s
  have ne: ∀ {X l:Nat}{f:Nat->C2},mB w X l f->0<l->X≠A:=λ{X l f} ⟨_,I,e,Q,h1,_,z⟩ hm hX=>by subst hX;obtain ⟨c',e',f',k,q,D,Y⟩:=y;rw[h1]at D;cases D;obtain ⟨u,hu,a,b,rfl,_⟩:=z 0 hm;grind
  have C: ∀ {d:aU}{t:World}{X l b:Nat}{f:Nat->C2},At E d t F i w->mB w X l f->d[b]? =some (X,.cells)->d[m]? =some (A,.cells)->m≠b\/l=0:=YS;obtain ⟨a1,v1,b1,G,o,k1,r1,l1,o1,c1⟩:=r.take J x (λK=>P a0 (Z J) (D K).2);obtain ⟨L,v2,b2,M,p,O,r2,l2,o2,c2⟩:=o.take z (x.ext G) (λK=>P S (Z z) (Y K).2);have hk:=O.1;have a2:=k1.1;refine ⟨L,v2,Lo g b1 b2,G.trans M,p,k1.trans O,(o2 m YP (.inl (C p z r2 (M _ _ (G _ _ s))))).trans (o1 m B (.inl (C o J r1 (G _ _ s)))),Pt (.int _ _) (.slice _ _ ⟨M _ _ r1,R,R⟩) (.slice _ _ ⟨r2,R,R⟩) (.int _ _),b1,b2,R,YP,l2,dy.av c1 O,c2⟩
theorem At.Dd {js:Nat->JS}{sw:Nat->List Value}(A: ∀b,b<w.heap.size-> ¬S' b->F.rd b){s B:Nat}(d: ∃C e I k q,w.heap[B]? =S (.cells C e I)/\C[0]? =S (.int k q)): ∀ (n:Nat){c:aU}{v:World},At E c v F i w->fT c->c[s]? =S (B,.cells)->(∀a,a<n-> ∃H,nu js a (sw a) S' H w)->
  ∃ (f:aU)(p:World)(r:Nat->List Value),Ext c f/\At E f p F i w/\aA v p/\p.heap[s]? =v.heap[s]? /\ ∀a,a<n->aB f (r a).toArray (sw a).toArray/\pn js a (r a) p
 | 0,c,v,g,_,_,_=>⟨c,v,λ_=> [],.refl _,g,.refl _,R,λa t=>absurd t (Nat.not_lt_zero _)⟩
 | n + 1,c,v,g,j,l,h=>by
  obtain ⟨J,V,r,x,m,K,L,M⟩:=At.Dd A d n g j l λa t=>h a YP;obtain ⟨H,N⟩:=h n (Nat.lt_succ_self _);obtain ⟨y,O,u,D,o,G,P,W,X⟩:=m.NY A (j.ext x) (x _ _ l) d N;refine ⟨y,O,λa=>if a=n then u else r a,x.trans D,o,K.trans G,P.trans L,λa t=> ?_⟩;by_cases z:a=n
  ·grind
  ·dsimp only;rw[if_neg z];obtain ⟨Q,T⟩:=M a YP;exact ⟨aB.mono D Q,T.av G⟩
end
structure oZ (v0:World)(Rl:Nat)(v:World):Prop where
 size:v0.heap.size<=v.heap.size
 cell: ∀a u,a.block≠Rl->v0.cell? a=S u->v.cell? a=S u
structure RL (mg:aU)(v0:World)(Rl:Nat)(ρ:aU)(v:World):Prop where
 ext:Ext mg ρ
 keep:oZ v0 Rl v
 wQ: ∃e f,v.heap[Rl]? =S (.cells #[] e f)
def Qn (js:Nat->JS)(d:Sx)(b n W g f:Nat):bC:=λF w=> ∀i,i<n->i % W=f-> ∃a:List x9,a.length=4/\(∀k,k<4->F.cl b (4 * i + k))/\
 (∃c e h,w.heap[b]? =S (.cells c e h)/\c.size=4 * n/\ ∀k,k<4->c[4 * i + k]? =a[k]?)/\nu js i a (d.add g).s F w
theorem Ap{a:Nat->Prop}(h: ∃e f,v.heap[n]? =S (.cells #[] e f)): ∃e f,(dL c W a v).heap[n]? =S (.cells #[] e f):=by
 obtain ⟨e,f,h⟩:=h;unfold dL;rw[dQ,h];simp only[B6,lD];split
 ·exact ⟨_,_,R⟩
 grind
theorem oZ.ex{Rl:Nat}{ρ:aU}{X:Nat->Prop}(h:oZ w Rl v)(b: ∀x,¬X x):oZ w Rl (dL ρ X W v):=⟨by rw[bq];exact h.size,λa u c d=>bz (h.cell a u c d) λx _=>b x⟩
theorem IZ{bK H I W s:Nat}{js:Nat->JS}(hW:0<J)(K:n + J<4611686018427387904)(hn:n<=100)(M:c[s]? =S (m,.cells))(p: ∀d,oZ v s d->AD d H I W s n (lH js))(X:Nat):
  iT (E1 V T X) (λ_ _=>False) m 4 n J L O bK 25 #[K4 (S ⟨H,0,none⟩),K4 (S ⟨I,0,none⟩)] Try.f25 (.region 0 GH true) (λ_=>none) (λ_=>RL c v s) (λf=>NG H I W s m n J f (lH js)) (Qn js T m n J X) where
 on:=trivial
 w0:=hW
 s0:=YQ
 small:=K
 fn:=Try.func25
 name:=Zn
 body:=Ks
 ej f y ρ' d v' hE hsz hbl h:=by obtain ⟨e,q,Y⟩:=h.wQ;exact ⟨h.ext.trans hE,⟨G7 h.keep.size hsz,λa u ha hu=>by have t:=h.keep.cell a u ha hu;rw[z6 (w:=d) (hbl _ (cy t))];exact t⟩,e,q,(hbl s (aG Y)).trans Y⟩
 next f y d h:=⟨h.ext,h.keep.ex λ_ z=>z,Ap h.wQ⟩
 child f y d F A B val w hf hz h hat:=⟨p _ (h.keep.ex λx ⟨g,_,_,z⟩=>z),h.ext _ _ M,R,hz,λi _ hD=>hD.elim⟩
 work f bF hf _:=Mt (tu js) hn
 stay f D y ρ' d v' F F' val hE hv hF h:=h.stay (tu js) hE ⟨YS,λb _=>by rw[hv]⟩ hF
 OG f D y d F val w h hat hall:=λi E l=>by
  obtain ⟨us,o,Z,k2,k3⟩:=h.did i E (hall i E l);obtain ⟨N,e1,e2,_⟩:=(tu js).agg i _ _ Z;have P:us=N:=by simpa using e1
  have C:o.length=4:=by have:=k2.1;simp only[List.size_toArray]at this;rw[<-this,P];exact e2
  have r: ∀k,k<4->F.cl m (4 * i + k):=λk hk=>by rw[h.cl];exact ⟨R,YP,by rw[show (4 * i + k) / 4=i by omega];exact l⟩
  obtain ⟨G,e,q,u,t,_,_,_,h5⟩:=hat.cells m (4 * i + 0) (r 0 YP);refine ⟨o,C,r,⟨G,e,q,t,h5 _ h.sz,λk hk=> ?_⟩,hat.left Z k2⟩;obtain ⟨c1,e3,f3,u1,g1,g2,_,g4,_⟩:=hat.cells m (4 * i + k) (r k hk);grind
 keep f F w w1 k h:=λi E l=>by obtain ⟨o,t,Q,⟨G,e,q,h3,h4,h5⟩,h6⟩:=h i E l;obtain ⟨c1,g1,g2,g3⟩:=k.cell m (4 * i + 0) G e q (Q 0 YP) h3;refine ⟨o,t,Q,⟨c1,e,q,g1,g2.trans h4,λj hj=> ?_⟩,h6.keep k⟩;obtain ⟨c2,m1,m2,m3⟩:=k.cell m (4 * i + j) G e q (Q j hj) h3;grind
 apart f y d h g x z:=z.elim
theorem At.results{C:aU}{v0:World}{js:Nat->JS}(a1:At E c v F i w)(hJ:RL C v0 J c v)(K:C[J]? =some (m,.cells))(hF: ∀b,b<w.heap.size-> ¬ (T b\/b=L)->F.rd b)(a2:fT C)(hW:0<A)(a3: ¬ (T m\/m=L))(hn:0<n)
  (hL: ∀f,f<min n A-> ∃H,Qn js T m n A L f H w):
  ∃ (M:aU)(v':World)(t:Nat->List Value),Ext c M/\At E M v' F i w/\aA v v'/\ ∀d,d<n->pn js d (t d) v'/\ ∀k,k<4->v'.cell? ⟨J,4 * d + k,none⟩=(t d)[k]? :=by
 have z: ∀d,d<n-> ∃sw:List Value,sw.length=4/\(∃l e D,w.heap[m]? =some (.cells l e D)/\l.size=4 * n/\ ∀k,k<4->l[4 * d + k]? =sw[k]?)/\ ∃H,nu js d sw (T.add L).s H w:=λd o=>by
  have a4:d % A<min n A:=by have B:=Nat.mod_lt d hW;have r:=Nat.mod_le d A;omega
  obtain ⟨H,hH⟩:=hL _ a4;obtain ⟨sw,B,_,h3,h4⟩:=hH d o R;exact ⟨sw,B,h3,H,h4⟩
 let sw:=λd=>if h:d<n then Classical.choose (z d h)else []
 have s: ∀d,d<n->(sw d).length=4/\(∃l e D,w.heap[m]? =some (.cells l e D)/\l.size=4 * n/\ ∀k,k<4->l[4 * d + k]? =(sw d)[k]?)/\ ∃H,nu js d (sw d) (T.add L).s H w:=λd o=>by
  skip
  have:=Classical.choose_spec (z d o);simp only[sw,dif_pos o];exact this
 obtain ⟨_,⟨c',e,D,hR,N,a5⟩,H0,p⟩:=s 0 hn;have O: ∃l e D k q,w.heap[m]? =some (.cells l e D)/\l[0]? =some (.int k q):=by
  have h0: ∃k q,(sw 0)[0]? =some (.int k q):=by
   unfold nu at p;cases G:js 0 with
   | none=>rw[G]at p;dsimp only at p;rw[p];exact ⟨_,_,R⟩
   | some g=>rw[G]at p;obtain ⟨b0,S1,B,_⟩:=p;rw[B];exact ⟨_,_,R⟩
  obtain ⟨k,q,h0⟩:=h0;exact ⟨c',e,D,k,q,hR,(a5 0 YP).trans h0⟩
 obtain ⟨P,I,t,e1,Q,k1,o1,B⟩:=At.Dd (js:=js) (sw:=sw) (S':=(T.add L).s) hF O n a1 (a2.ext hJ.ext) (hJ.ext _ _ K) λd o=>(s d o).2.2;have a6:=e1 _ _ (hJ.ext _ _ K);have V: ∀d,d<n->(t d).length=4:=λd o=>by have r:=(B d o).1.1;simp only[List.size_toArray]at r;rw[r];exact (s d o).1
 have a7: ∀d,d<n-> ∀k,k<4->c'[4 * d + k]? =(sw d)[k]? :=λd o k hk=>by obtain ⟨_,⟨c2,e2,f2,g1,_,g3⟩,_⟩:=s d o;rw[hR]at g1;cases g1;exact g3 k hk
 obtain ⟨e0,f0,W⟩:=hJ.wQ;rw[W]at o1;let l:=((List.range (4 * n)).map λj=>((t (j / 4))[j % 4]?).getD U).toArray;have X: ∀j,j<4 * n->l[j]? =(t (j / 4))[j % 4]? :=λj G=>by have r:=V (j / 4) YP;obtain ⟨x,hx⟩: ∃x,(t (j / 4))[j % 4]? =some x:=⟨_,List.getElem?_eq_getElem YP⟩;simp[l,G,hx]
 have a8:aB P l c':=by
  refine ⟨by simp[l,N],λj x y hx hy=> ?_⟩;have G:j<4 * n:=by rw[<-N];exact aG hy
  rw[X j G]at hx;have r:=a7 (j / 4) YP (j % 4) YP;rw[show 4 * (j / 4) + j % 4=j by omega,hy]at r;exact (B (j / 4) YP).1.2 (j % 4) x y (by simpa using hx) (by simpa using r.symm)
 have a9:=hF m (aG hR) a3;have Y:=aG o1;have Z:aA I {I with heap:=I.heap.setIfInBounds J (.cells l e (0,l.size))}:=by
  refine ⟨YR,λa u ha=> ?_⟩;by_cases a0:a.block=J
  ·exfalso;unfold World.cell? at ha;rw[a0,o1]at ha;simp at ha
  ·rw[World.cell?_of_block (w:=I) (by show (I.heap.setIfInBounds J _)[a.block]? =_;rw[C3,if_neg (λh=>a0 h.symm)])];exact ha
 refine ⟨P,_,t,e1,Q.kJ a6 hR a8 a9,k1.trans Z,λd o=>⟨(B d o).2.av Z,λk hk=> ?_⟩⟩;unfold World.cell?;show (match (I.heap.setIfInBounds J (.cells l e (0,l.size)))[J]? with | some (.cells l _ _)=>_ | _=>none)=_;rw[C3,if_pos R,if_pos Y];have r:=X (4 * d + k) YP;rw[show (4 * d + k) / 4=d by omega,show (4 * d + k) % 4=k by omega]at r;assumption
noncomputable def B7:G0:=match Try.f7.body with | some c=>c | _=> .skip
theorem CZ:Try.f24.body=S JX:=Zn
theorem BA:(Try.prog.info? 46).map (λi=>(i.zero,i.size,i.bytes))=S (S (.agg #[J9 K1 0,.slice none 0 0,.slice none 0 0,.int .u64 0]),4,64):=Zn
theorem zA (W:Nat)(b:1<=W)(c:W<=64)(w:World):C1 Try.prog 23 #[J9 K1 W] w λe a=>e= .returned (.bool true)/\a=w:=by
 have d:(1:Int)<=(W:Int):=YP;have f:(W:Int)<=64:=YP;go_enter Try.func23,Try.ntmps23
 go_wp2
 go_ret
 simp
section
variable {ρ:aU}{W:Nat}{c:Frame}{js:Nat->JS}
theorem HY (b7:fT ρ)(a8: ∀p,aA v p-> ∀i,i<n-> ∃a6:List Value,p.rangeAt A (i * 6) a6/\a6.length=6/\ ∀w,ar p w->C1 Try.prog 26 #[.agg a6.toArray] w λe w'=> ∃u,e= .returned u/\lH js i u w'/\ar w w')
  (hK: ∀S' J p F' w' Rl (us:Nat->List Value) z,S'.lq T->Ext ρ J->At (E0 S') J p F' bO w'->aA v p->(∀i,i<n->pn js i (us i) p/\ ∀k,k<4->p.cell? ⟨Rl,4 * i + k,none⟩=(us i)[k]?)->VR J (K3 (some ⟨Rl,0,none⟩) n n) z->cO a S' F' (G (c.finish (.tuple #[z,J9 K1 0])) l) w')
  (f:At (E0 T) ρ v F bO w)(hv:aB ρ #[K3 (some ⟨A,0,none⟩) n m,J9 K1 W] y)(h1:1<=W)(h2:W<=64)(b8:0<n)(hn:n<=100):
  cO a T F (G (ak 7 (y ++ z7 17 U) [.code B7]) (c::l)) w:=by
 have e7:B7=B7:=rfl;conv at e7=>rhs;unfold B7;simp only[Try.f7]
 rw[e7];have b9:aB ρ #[K3 (some ⟨A,0,none⟩) n m,J9 K1 W,U,U,U,U,U,U,U,U,U,U,U,U,U,U,U,U,U] (y ++ z7 17 U):=hv.ei 17;refine aa.ah f λw f=> ?_;refine aa.ej (Q:=λx' p=>x'= #[K3 (some ⟨A,0,none⟩) n m,J9 K1 W,K4 (some ⟨v.heap.size,0,none⟩),U,.slice none 0 0,J9 K1 0,U,U,U,U,U,U,U,U,U,U,U,U,U]/\p.heap=v.heap.push (.cells #[K3 (some ⟨A,0,none⟩) n m] 38)) bh ⟨_,Try.func7⟩ Zo Zn YU YU f b9 (λtp=> ?_) ?_
 ·go_wp2
  exact ⟨rfl,rfl⟩
 ·rintro e9 x1 y1 v1 w1 F1 c1 f0 ⟨rfl,H⟩ f c2;refine aa.ah f λw f=> ?_;refine aa.ej (Q:=λx' p=>x'= #[K3 (some ⟨A,0,none⟩) n m,J9 K1 W,K4 (some ⟨v.heap.size,0,none⟩),U,.slice none 0 0,J9 K1 0,U,J9 K1 W,.bool true,.bool false,U,U,U,U,U,U,U,U,U]/\p.heap=v1.heap) bh ⟨_,Try.func7⟩ Zo Zn YU YU f c2 (λtp=> ?_) ?_
  ·have Hf:=au (zA W h1 h2);have Hv:=au H;clear H;go_wp2_with (go_at_call 23;refine (ae Hf _).mono ?_;rintro e w6 ⟨rfl,rfl⟩)
   rfl
  ·rintro f1 x2 y2 q w2 F2 c3 f2 ⟨rfl,a2⟩ f c4;refine aa.ah f λw f=> ?_;have j:ar v q:=⟨YS,λb hb=>YS⟩;have D:q.cell? ⟨v.heap.size,0,none⟩=some (K3 (some ⟨A,0,none⟩) n m):=by unfold w7;rw[a2,H];simp
   clear H a2;refine aa.ej (Q:=λx' p=> ∃K,x'= #[K3 (some ⟨A,0,none⟩) n m,J9 K1 W,K4 (some ⟨v.heap.size,0,none⟩),U,.slice none 0 0,J9 K1 0,K4 (some ⟨K,0,none⟩),J9 K1 W,.bool true,.bool false,K3 (some ⟨A,0,none⟩) n m,J9 K1 n,K3 (some ⟨q.heap.size,0,none⟩) n n,U,U,U,U,U,U]/\K≠q.heap.size/\ar q p/\(∃E e,p.heap[q.heap.size]? =some (.cells E e (0,0))/\E.size=4 * n)/\p.cell? ⟨K,0,none⟩=some (K3 (some ⟨q.heap.size,0,none⟩) n n)) bh ⟨_,Try.func7⟩ Zo Zn YU YU f c4 (λtp=> ?_) ?_
   ·obtain ⟨i0,hi,c5,c6,c7⟩:=B1 BA;have a9:(aK q tp 0).cell? ⟨v.heap.size,0,none⟩=some (K3 (some ⟨A,0,none⟩) n m):=D;have Hv:=au j;clear j D;go_wp2_with (first
     | (refine wpList_make_full _ rfl _ _ 39 rfl (aK q tp 0).heap.size 46 i0 (.agg #[J9 K1 0,.slice none 0 0,.slice none 0 0,.int .u64 0]) 4 Try.underlying39 hi c5 c6 .i64 .i64 _ _ n rfl rfl rfl rfl (by rw[c7];omega) Zp (Nat.le_refl _) ?_;intro w3 a3 b0))
    obtain ⟨f3,c9⟩:=dS a3;have o:ar q w3:=⟨b0.size,λb hb=>b0.block b hb YR⟩;have d0: ∃E e,w3.heap[q.heap.size]? =some (.cells E e (0,0))/\E.size=4 * n:=by
     rcases a3.2 with ⟨M,_⟩ | ⟨g,f4,d1,M,_,q3,_,_,q6,_⟩
     ·cases M
     ·simp only[Value.slice.injEq,G9,I9]at M;obtain ⟨⟨q7,_⟩,_,q8⟩:=M;exact ⟨d1,_,by rw[<-q3,<-q7];rfl,YP⟩
    have e1:q.heap.size<w3.heap.size:=c9;refine ⟨w3.heap.size,⟨rfl,rfl⟩,YP,⟨by show _<=(w3.heap.push _).size;grind,λb hb=> ?_⟩,?_,?_⟩
    ·show (w3.heap.push _)[b]? =_;rw[z8,if_neg YP];exact o.2 b hb
    ·obtain ⟨E,e,M,q2⟩:=d0;refine ⟨E,⟨e,?_⟩,q2⟩;show (w3.heap.push _)[q.heap.size]? =_;grind
    ·unfold w7;show (match (w3.heap.push _)[w3.heap.size]? with | some (.cells c _ _)=>_ | _=>none)=_;simp;rfl
   ·rintro f5 x3 y3 v3 w3 F3 d2 f6 ⟨K,rfl,b1,o,N,O⟩ f d3;refine aa.ah f λw f=> ?_;refine aa.aC f λw f=> ?_;refine aa.ops (L:= [0,1,2,3]) (rest:= [4]) (ey:= #[_,_,_,_]) (Q:=λx' p=>x'= #[K3 (some ⟨A,0,none⟩) n m,J9 K1 W,K4 (some ⟨v.heap.size,0,none⟩),U,.slice none 0 0,J9 K1 0,K4 (some ⟨K,0,none⟩),J9 K1 W,.bool true,.bool false,K3 (some ⟨A,0,none⟩) n m,J9 K1 n,K3 (some ⟨q.heap.size,0,none⟩) n n,K3 (some ⟨A,0,none⟩) n m,J9 K1 n,J9 K1 W,.func (.func 25) #[] #[K4 (some ⟨v.heap.size,0,none⟩),K4 (some ⟨K,0,none⟩)],U,U]/\p.heap=v3.heap) bh ⟨_,Try.func7⟩ Zo 0 (.cons ⟨_,rfl,rfl,Zn,rfl⟩ (.cons ⟨_,rfl,rfl,Zn,rfl⟩ (.cons ⟨_,rfl,rfl,Zn,rfl⟩ (.cons ⟨_,rfl,rfl,Zn,rfl⟩ .nil)))) Zn YU YU f d3 (λtp=> ?_) ?_
    ·have a9:(aK v3 tp 0).cell? ⟨v.heap.size,0,none⟩=some (K3 (some ⟨A,0,none⟩) n m):=o.cell D;have Hv:=au (And.intro j (And.intro o (And.intro N O)));clear j o N O D;go_wp2
     rfl
    ·rintro d4 x4 y4 v4 w4 F4 d5 f7 ⟨rfl,P⟩ f X;obtain ⟨R,e2,Y⟩:=(X.ev (t:=12) rfl).iO;have B:ar v3 v4:=⟨YS,λb _=>by rw[P]⟩;have r:=o.trans B;have e3:v.heap.size<q.heap.size:=cy D;have Z:=r.cell D;have I:=B.cell O;have C: ∃E e,v4.heap[q.heap.size]? =some (.cells E e (0,0))/\E.size=4 * n:=by obtain ⟨E,e,M,q2⟩:=N;exact ⟨E,e,YS,q2⟩
     have a7: ∀p,oZ v4 q.heap.size p->aA v p:=λp k=>⟨Nat.le_trans j.1 (Nat.le_trans r.1 k.size),λd6 u ha=>k.cell d6 u (by have:=cy ha;omega) ((j.trans r).cell ha)⟩;have a0: ∀p,oZ v4 q.heap.size p->AD p v.heap.size K A q.heap.size n (lH js):=λp k=>⟨⟨m,k.cell _ _ YS Z⟩,⟨n,k.cell _ _ b1 I⟩,a8 p (a7 p k)⟩;have a4:=((c1.trans c3).trans d2).trans d5;have d7: ¬T R:=λhs=>(f.fg.out R (.inl hs)).2.1 (by obtain ⟨E,e,M,q2⟩:=C;exact f.fp.dc _ R Y ⟨E,e,_,M,YP⟩);refine aa.go f YR (λ_=>fM rfl rfl rfl Try.func24 Zn CZ) λw f=> ?_;have b2:aB d4 #[J9 K1 n,J9 K1 W,.func (.func 25) #[] #[K4 (some ⟨v.heap.size,0,none⟩),K4 (some ⟨K,0,none⟩)]] ((#[J3 14,.tmp 15,.tmp 16]:Array B4).map (x7 ⟨y4,[]⟩)):=by
      simp only[List.map_toArray,List.map_cons,List.map_nil];refine ⟨rfl,λi x g1 hx hy=> ?_⟩;rcases (by omega:i=0\/i=1\/i=2\/3<=i)with rfl | rfl | rfl | hi
      ·cases hx;cases hy;exact X.ev (t:=14) rfl
      ·cases hx;cases hy;exact X.ev (t:=15) rfl
      ·cases hx;cases hy;exact X.ev (t:=16) rfl
      ·simp_all
     refine Bu (V:=λ_ _ _=>False) (Rl:=q.heap.size) (R:=R) (s:=4) (L:=λWg=>Qn js T R n W Wg) f b2 (IZ (js:=js) YP YP hn Y a0) Y C (λ_ _ h=>h.elim) (λ_ _ _ h=>h.elim) YP ?_ ?_
     ·intro J v1 hE e4 a1;refine ⟨hE,⟨by rw[bq];exact a1.1,λd6 u ha hu=>bz (a1.cell hu) λx hx e=>ha ?_⟩,?_⟩
      ·grind
      ·obtain ⟨E,e,M,q2⟩:=C;have q3:=(a1.2 _ (aG M)).trans M;refine ⟨e,(0,0),?_⟩;unfold dL;exact gE q3 (λ⟨x,_,g,_,_,hg⟩=>hg) λh=>h R (hE _ _ Y) rfl
     ·intro Wg J p w' f8 hJ f hL;obtain ⟨f9,v5,us,e5,b3,k5,h5⟩:=f.results hJ Y (λb hb hs=>⟨hb,hs⟩) (b7.ext a4) YP (λh=>h.elim d7 λh=>YP) b8 hL;have b4:=(aB.mono (hJ.ext.trans e5) X).put (d:=some 17) VR.unit;simp only[List.setIfInBounds_toArray,List.set_cons_succ,List.set_cons_zero]at b4;have a5:=k5.2 _ _ (hJ.keep.cell _ _ b1 I);rw[bu rfl];refine aa.aH b3 λw f=> ?_;refine aa.ah f λw f=> ?_;refine aa.ej (Q:=λx' p=>x'= #[K3 (some ⟨A,0,none⟩) n m,J9 K1 W,K4 (some ⟨v.heap.size,0,none⟩),U,K3 (some ⟨q.heap.size,0,none⟩) n n,J9 K1 0,K4 (some ⟨K,0,none⟩),J9 K1 W,.bool true,.bool false,K3 (some ⟨A,0,none⟩) n m,J9 K1 n,K3 (some ⟨q.heap.size,0,none⟩) n n,K3 (some ⟨A,0,none⟩) n m,J9 K1 n,J9 K1 W,.func (.func 25) #[] #[K4 (some ⟨v.heap.size,0,none⟩),K4 (some ⟨K,0,none⟩)],.tuple #[],K3 (some ⟨q.heap.size,0,none⟩) n n]/\p.heap=v5.heap) bh ⟨_,Try.func7⟩ Zo Zn YU YU f b4 (λtp=> ?_) ?_
      ·have e6:(aK v5 tp 0).cell? ⟨K,0,none⟩=some (K3 (some ⟨q.heap.size,0,none⟩) n n):=a5;have Hv:=au (And.intro j (And.intro o (And.intro N (And.intro O (And.intro P (And.intro B (And.intro Z (And.intro I C))))))));clear j o N O D P B r Z I C a5 h5 k5 a7 a0 hL hJ;go_wp2
       rfl
      ·rintro d8 x6 y6 v6 w6 F6 d9 g0 ⟨rfl,e8⟩ f b5;refine aa.pP f λw f=> ?_;refine aa.go f YR (λ_=>mZ Try.func7 rfl) λw f=> ?_;have b6:aA v5 v6:=⟨YS,λd6 u h=>by unfold w7 at h ⊢;grind⟩;have e0:y6.getD 5 U= J9 K1 0:=b5.int (t:=5) rfl;rw[e0];exact hK _ d8 v6 F6 w q.heap.size us _ ⟨rfl,rfl⟩ (((a4.trans hJ.ext).trans e5).trans d9) f (((a7 _ hJ.keep).trans k5).trans b6) (λi hi=>⟨(h5 i hi).1.av b6,λk hk=>by have:=(h5 i hi).2 k hk;unfold w7 at this ⊢;grind⟩) (b5.ev (t:=4) rfl)
end
theorem ar.av(h:ar v w):aA v w:=⟨h.1,λ_ _ a=>h.cell a⟩
theorem bn.av(h:bn v Y n p)(k:aA v w):bn w Y n p:=by obtain ⟨a,c,d,e⟩:=h;refine ⟨a,c,d,λi f=> ?_⟩;obtain ⟨b,g,l,m,o,q,r,s,t,x⟩:=e i f;exact ⟨b,g,l,m,o,q,r,z4 s k.1,λj u y=>k.2 _ _ (t j u y),x⟩
theorem bj.av(h:bj v Y m X)(k:aA v w):bj w Y m X:=by obtain ⟨d,c,e,f⟩:=h;refine ⟨d,c,e,λj g=> ?_⟩;obtain ⟨b,a,u,i,l,n,o⟩:=f j g;exact ⟨b,a,u,i,z4 l k.1,k.2 _ _ n,o⟩
theorem vn{g:Gu}{js:Nat->JS}(a:js L=S ⟨m,J,gT g P J p aI X,jr g P J p aI X m,gM g P J p aI X m⟩)
  (f:cY (J7 J8 n A))(h:aS (J7 J8 n A) P)(i:bn v u J p)(j:bj v Y m X)(k:J<=16)(l:m<=8796093022208)(w:World)(c:ar v w):
  C1 Try.prog 26 #[.agg [J7 J8 n A,u,.bool g.flush,.bool g.clip,.bool g.mute,Y].toArray] w λe b=> ∃d,e= .returned d/\lH js L d b/\ar w b:=by
 refine (Oq n A J m u Y g P X p w f h (i.av c.av) (j.av c.av) k l).mono ?_;rintro e b ⟨o,q,rfl,_,_,r,s,t,x,y⟩;refine ⟨_,R,?_,ar.ba y (Nat.le_refl _)⟩;unfold lH;rw[a];exact ⟨o,q,R,r,s,t,yN x⟩
theorem Ej{g:Gu}{js:Nat->JS}(a:js A=none)(c:pf (J7 J8 n m))(w:World):
  C1 Try.prog 26 #[.agg [J7 J8 n m,.slice none 0 0,.bool g.flush,.bool g.clip,.bool g.mute,.slice none 0 0].toArray] w λe b=> ∃u,e= .returned u/\lH js A u b/\ar w b:=by
 refine (Dr n m _ R g w c).mono ?_;rintro e b ⟨rfl,d⟩;refine ⟨_,R,?_,ar.ba d (Nat.le_refl _)⟩;unfold lH;rw[a];rfl
theorem IQ{js:Nat->JS}(d:Nat->List Value)(g: ∀i,i<n->v.rangeAt m (i * 6) (d i)/\(d i).length=6)
  (h: ∀a,aA v a-> ∀i,i<n-> ∀w,ar a w->C1 Try.prog 26 #[.agg (d i).toArray] w λe c=> ∃u,e= .returned u/\lH js i u c/\ar w c):
  ∀a,aA v a-> ∀i,i<n-> ∃b:List Value,a.rangeAt m (i * 6) b/\b.length=6/\ ∀w,ar a w->C1 Try.prog 26 #[.agg b.toArray] w λe c=> ∃u,e= .returned u/\lH js i u c/\ar w c:=
 λa k i f=>⟨d i,λj u l=>k.2 _ _ ((g i f).1 j u l),(g i f).2,h a k i f⟩
theorem Bd (n:Nat)(w:World):C1 Try.prog 20 #[.int .u64 n] w λe a=>e= .returned (.float .f64 n)/\a=w:=by
 have b:=ig;go_enter Try.func20,Try.ntmps20
 go_wp2
 go_ret
 simp
def vX (a:Nat->Nat)(j:Nat):x9:= J7 J8 (a (2 * j)) (a (2 * j + 1))
def IL (a:Nat->Nat)(j:Nat):C2:=(lf (a (2 * j)),lf (a (2 * j + 1)))
theorem rW(h:w.ownsRow m t A u n j)(b:J<m):S J≠u.ownBlock:=by intro a;have c:=(h.lt J a.symm).1;omega
theorem IM (G:Option I8)(d c:Nat)(a:Nat->Nat)(w:World)(z:d * 8<=140737488351232)
  (H: ∀j,j<d-> ∃b m,G=S ⟨b,m,none⟩/\b<w.heap.size/\w.cell? ⟨b,m + j,none⟩=S (.int .u64 (a j))):
  C1 Try.prog 4 #[.slice G d c] w λe q=> ∃v,e= .returned v/\q.ownsRow w.heap.size 26 1 v (d / 2) ((List.range (d / 2)).map (vX a))/\Below w.heap.size w q:=by
 obtain ⟨O,P,A,B,C⟩:=B1 fY;have J:=au H;clear H;go_enter Try.func4,Try.ntmps4
 go_wp2_with fail
 go_loopw [3,4] (λv i wr=> ∃k I:Nat,I=2 * k/\I<=d/\i= J9 K1 I/\wr.ownsRow w.heap.size 26 1 v k ((List.range k).map (vX a))/\Below w.heap.size w wr) (λ_ i _=>d - (intOf i).toNat)
 case atStart=>exact ⟨0,0,R,Nat.zero_le _,R,World.ownsRow_nil _ _ _ _,Below.refl _ _⟩
 case round=>
  obtain ⟨k,I,r,Q,rfl,h,l⟩:=hrel;by_cases T:I + 1<d
  ·have K:(I:Int) + 1<(d:Int):=by omega
   have V:(0:Int)<=(I:Int):=YP;have W:(I:Int)<(d:Int):=YP;have X:(0:Int)<=(I:Int) + 1:=YP;have Y:((I:Int) + 1).toNat=I + 1:=YP;have Z: ¬ ((I:Int) + 1<0):=YP;obtain ⟨b,m,rfl,o,s⟩:=ae J I YP;obtain ⟨n,f,e,_,x⟩:=ae J (I + 1) YP;obtain ⟨rfl,rfl⟩:n=b/\f=m:=YS;clear e;have k1:wr.cell? ⟨n,f + I,none⟩=S (.int .u64 (a I)):=by rw[l.cell (by exact o)];exact s
   have k2:wr.cell? ⟨n,f + (I + 1),none⟩=S (.int .u64 (a (I + 1))):=by rw[l.cell (by exact o)];exact x
   have D:=au r;have E:=au l;have F:=l.size;clear s x r l;have y:=rW h o;have a0:2 * (k + 1)<=d:=by have:=ae D;omega
   have s1:Hid (k + 1<=maxLen):=au Zp;have s2:Hid ((k + 1) * 16<=140737488355328):=au YP;have s3:Hid (w.heap.size<=((wr.alloc (A9 #[J7 J8 (a I) (a (I + 1))] 26)).drew).heap.size):=au YT;have s4:Hid (((wr.alloc (A9 #[J7 J8 (a I) (a (I + 1))] 26)).drew).heap.size=wr.heap.size + 1):=au YR;have L:Hid (n<((wr.alloc (A9 #[J7 J8 (a I) (a (I + 1))] 26)).drew).heap.size):=au YT;have s6:Hid (∀u∈ [Value.complex .f64 (a I) (a (I + 1))],u.oneCell'=true):=au (by intro u M;simp at M;subst M;rfl);have y1:Hid (((wr.alloc (A9 #[J7 J8 (a I) (a (I + 1))] 26)).drew).cell? ⟨n,f + I,none⟩=S (.int .u64 (a I))):=au ((World.grownBy_alloc wr _ none).cell k1 YR);have y2:Hid (((wr.alloc (A9 #[J7 J8 (a I) (a (I + 1))] 26)).drew).cell? ⟨n,f + (I + 1),none⟩=S (.int .u64 (a (I + 1)))):=au ((World.grownBy_alloc wr _ none).cell k2 YR);have a1:IntKind.i64.wrap ((I:Int) + 1)=(I:Int) + 1:=Zr;go_wp2_with fail
   go_region_held3 (λq=>q.cell? ⟨n,f + I,none⟩=S (.int .u64 (a I))/\q.cell? ⟨n,f + (I + 1),none⟩=S (.int .u64 (a (I + 1)))) (go_keep)
    (first
     | (go_at_call 20;refine (Bd _ _).mono ?_;rintro e w1 ⟨rfl,rfl⟩)
     | (refine step_append_lies _ YV _ _ _ YV w.heap.size 26 O _ 1 16 Try.underlying24 P A B C rfl Nat.one_pos u3 k ((List.range k).map (vX a)) YV ((h.alloc _).drew) ⟨wr.heap.size,0,none⟩ 1 1 [J7 J8 (a I) (a (I + 1))] YV YV (World.news_of_block (cs:= #[J7 J8 (a I) (a (I + 1))]) (t:=26) (fr:=(0,0)) (C7 wr _)) s6.out Nat.one_pos s1.out s2.out s3.out (wr.heap.size + 1) s4.out ?_;intro gg a2 w1 p g a3 N;have z1:=(g.cell_far _ L.out y).trans y1.out;have z2:=(g.cell_far _ L.out y).trans y2.out)
     | fail)
   go_wp2
   go_roundw
   case rel=>
    have r:=ae D;refine ⟨k + 1,I + 2,YP,YP,by go_num,?_,?_⟩
    ·have e:vX a k= J7 J8 (a I) (a (I + 1)):=by unfold vX;rw[r]
     rw[List.range_succ,List.map_append,List.map_singleton,e];exact p
    ·exact (((ae E).alloc F _).drew).grown g YT (λj e=>(h.lt j e).1)
   case measure=>simp[intOf];omega
  ·have hk:d / 2=k:=by omega
   have D:=au r;go_wp2
   go_ret
   simp_all
def Dq:x9->C2
 | .complex _ r i=>(lf r,lf i)
 | _=>z0
theorem cY.is(h:cY u):aS u (Dq u):=by obtain ⟨r,i,rfl,a,b,_⟩:=h;exact aS.of r i a b
theorem cY.one(h:cY u):u.oneCell'=true:=by obtain ⟨r,i,rfl,_⟩:=h;rfl
def iD (a:List x9)(k:Nat):Prop:=
 a.length=k * 5/\ ∀i,i<k-> ∃b c d e,a[i * 5]? =S (J7 J8 4607182418800017408 0)/\a[i * 5 + 1]? =S b/\a[i * 5 + 2]? =S c/\a[i * 5 + 3]? =S d/\a[i * 5 + 4]? =S e/\cY b/\cY c/\cY d/\cY e
theorem iD.push {cs:List x9}{k:Nat}(h:iD cs k){a b:x9}(l:cY u)(m:cY Y)(n:cY a)(o:cY b):iD (cs ++ [J7 J8 4607182418800017408 0,u,Y,a,b]) (k + 1):=by
 have p:=h.1;refine ⟨YT,λi q=> ?_⟩;by_cases c:i=k
 ·simp_all
 ·obtain ⟨d,e,f,g,r,s,t,v,w,j⟩:=h.2 i YP;refine ⟨d,e,f,g,?_,?_,?_,?_,?_,j⟩<;>rw[D2 YP]<;>assumption
def cb (a:List x9)(i:Nat):dM:=⟨z1,Dq (a.getD (i * 5 + 1) U),Dq (a.getD (i * 5 + 2) U),Dq (a.getD (i * 5 + 3) U),Dq (a.getD (i * 5 + 4) U)⟩
theorem IY(h:w.ownsRow n 70 5 u m j)(v:iD j m):bn w u m (cb j):=by
 rcases id h.2 with ⟨rfl,rfl⟩ | ⟨g,c,y,rfl,F,G,_⟩
 ·exact ⟨none,0,R,λi e=>YP⟩
 ·have d:g<w.heap.size:=by grind
  refine ⟨_,c,R,λi e=> ?_⟩;obtain ⟨f,k,l,o,H,z,A,B,C,p,q,r,s⟩:=v.2 i e;have b:=λa D E=>by have:=h.cells (g:=g) R a D E;rwa[H6,G6]at this
  refine ⟨g,J7 J8 4607182418800017408 0,f,k,l,o,R,d,λa x t=> ?_,HW,p,q,r,s,Oa,?_,?_,?_,?_⟩
  ·have I:a<5:=(D1.1 t).1;rcases (by omega:a=0\/a=1\/a=2\/a=3\/a=4)with rfl | rfl | rfl | rfl | rfl<;>(obtain rfl:=Option.some.inj t;apply b;assumption)
  ·have:j.getD (i * 5 + 1) U=f:=by rw[A4,z];rfl
   simp only[cb,this];exact p.is
  ·have:j.getD (i * 5 + 2) U=k:=by rw[A4,A];rfl
   simp only[cb,this];exact q.is
  ·have:j.getD (i * 5 + 3) U=l:=by rw[A4,B];rfl
   simp only[cb,this];exact r.is
  ·have:j.getD (i * 5 + 4) U=o:=by rw[A4,C];rfl
   simp only[cb,this];exact s.is
theorem BB:(Try.prog.info? 70).map (λi=>(i.zero,i.size,i.bytes))=S (S (.agg #[c0,c0,c0,c0,c0]),5,80):=Zn
theorem nH:(Try.prog.info? 29).map (·.size)=S 2:=Zn
def uy (w:World)(e:Ending)(a:World):Prop:= ∃v k b,e= .returned (.agg #[J7 J8 4604930618986332160 4602678819172646912,v])/\k<=4/\bn a v k (cb b)/\Below w.heap.size w a
theorem yo{a:x9}(b:o.op= .call {callee:= .builtin .append,args:= #[x,Z],argTypes:= #[t,t]})(c:M.eval x=u)(e:M.eval Z=Y)
  (f:(Builtin.append_ #[t,t] o.type #[u,Y]).run Try.prog w= .ok a v)(h:d a v):bD Try.prog o M w d:=by
 refine .inl ⟨a,v,?_,h⟩;unfold w8;simp only[b,resolve,invoke,builtin,Sem.run_bind,Sem.run_pure,Result.andThen_ok,D9,G4,H7,c,e,f]
theorem BN(a:o.op= .store t x Z)(b:M.eval x=u)(c:M.eval Z=Y)(e:(J0 t u Y).run Try.prog w= .ok () v)(h:d U v):bD Try.prog o M w d:=
 .inr (.inl ⟨v,by simp[w8,a,b,c,e],h⟩)
theorem vL{y:B4}{r:x9}{a:Array I3}(b:o.op= .call {callee:= .value (.func 21),args:= #[x,y,Z],argTypes:=a})(f:M.eval x=u)(g:M.eval y=Y)(h:M.eval Z=r)
  (i:C1 Try.prog 21 #[u,Y,r] w λe c=> ∃Y,e= .returned Y/\d Y c):bD Try.prog o M w d:=by
 refine .inr (.inr ⟨21,#[M.eval x,M.eval y,M.eval Z],?_,?_⟩)
 ·simp[w8,b];go_simp
 grind
theorem jC (p:I8)(n:Nat)(w:World)(h:w.cell? p=S (.int .u8 n)):(C5 5 (.pointer (S p))).run Try.prog w= .ok (.int .u8 n) w:=Zq
theorem gC (b a n c k:Nat)(w:World)(h:k<n):(Instr.indexAt 22 (K3 (S ⟨b,a,none⟩) n c) (J9 K1 k)).run Try.prog w= .ok (K4 (S ⟨b,a + k,none⟩)) w:=by have d:(k:Int)<(n:Int):=YP;go_simp
theorem yM (p:I8)(a:Option I8)(n c:Nat)(u:x9)(w:World)(h:w.cell? p=S u)(b:w.frozen? p=false):(J0 27 (.pointer (S p)) (.slice a n c)).run Try.prog w= .ok () (w.setCell p (.slice a n c)):=Zq
theorem xo (a b c d e f g h i j:Nat)(w:World):(Instr.buildSlice 27 1 #[(0,.agg #[J7 J8 a b,J7 J8 c d,J7 J8 e f,J7 J8 g h,J7 J8 i j])]).run Try.prog w= .ok (K3 (S ⟨w.heap.size,0,none⟩) 1 1) (w.alloc (.cells #[J7 J8 a b,J7 J8 c d,J7 J8 e f,J7 J8 g h,J7 J8 i j] 70)):=Zq
theorem zT{V:Nat->x9->Prop}{C:World->Prop}{b:I3}(a:o.op= .binOp .add t x (.const (J9 K1 m)) b)(c:o.dst=S n)(d:M.eval x= J9 K1 A)(h:A + m<9223372036854775807)(e:V n (J9 K1 (A + m:Nat)))(f:C w):
  ec Try.prog o M w (λv=> ∀n,o.dst=S n->V n v) C:=by
 refine .inl ⟨_,w,?_,aj c e,f⟩;have g:IntKind.i64.wrap ((A:Int) + (m:Int))=(A:Int) + (m:Int):=Zr;simp only[w8,a,d];simp[eqGuard,binOp,Op.intArith,x7,g]
def wV (h b a I d c k:Nat)(e:Nat->Nat)(v:x9):Nat->x9->Prop
 | 17,u=>u= K4 (S ⟨h + 1,1,none⟩)
 | 18,u=>u=v
 | 19,u=>u= K3 (S ⟨b,a,none⟩) d c
 | 20,u=>u= J9 K1 I
 | 21,u=>u= K4 (S ⟨b,a + I,none⟩)
 | 22,u=>u= .int .u8 (e I)
 | 23,u=>u= K3 (S ⟨b,a,none⟩) d c
 | 24,u=>u= J9 K1 I
 | 25,u=>u= J9 K1 (I + 1:Nat)
 | 26,u=>u= K4 (S ⟨b,a + (I + 1),none⟩)
 | 27,u=>u= .int .u8 (e (I + 1))
 | 28,u=>u= K3 (S ⟨b,a,none⟩) d c
 | 29,u=>u= J9 K1 I
 | 30,u=>u= J9 K1 (I + 2:Nat)
 | 31,u=>u= K4 (S ⟨b,a + (I + 2),none⟩)
 | 32,u=>u= .int .u8 (e (I + 2))
 | 33,u=> ∃i j l m,u= .agg #[J7 J8 4607182418800017408 0,i,j,l,m]/\cY i/\cY j/\cY l/\cY m
 | 34,u=> ∃N,u= K3 (S ⟨N,0,none⟩) 1 1
 | 35,u=> ∃g f,u= K3 (S ⟨g,0,none⟩) (k + 1) f
 | 36,u=>u= K4 (S ⟨h + 1,1,none⟩)
 | _,_=>True
def wC (c:Nat)(i:World)(v:x9)(k:Nat)(j:List x9)(b:Array Bool)(a:Act)(w:World):Prop:=
 Below (c + 1) i w/\(b.getD 18 false=false->w.ownsRow (c + 2) 70 5 v k j)/\
 (b.getD 20 false=false->w.heap[c + 1]? =S (.cells #[J7 J8 4604930618986332160 4602678819172646912,v] 29 (0,0)))/\
 (b.getD 17 false=true->b.getD 18 false=false-> ∃N e f g h,a.eval (.tmp 34)= K3 (S ⟨N,0,none⟩) 1 1/\w.rangeAt N 0 [J7 J8 4607182418800017408 0,e,f,g,h]/\cY e/\cY f/\cY g/\cY h)/\
 (b.getD 18 false=true-> ∃d,a.eval (.tmp 35)=a.eval (.tmp 35)/\w.ownsRow (c + 2) 70 5 (a.eval (.tmp 35)) (k + 1) d/\iD d (k + 1))/\
 (b.getD 20 false=true->w.heap[c + 1]? =S (.cells #[J7 J8 4604930618986332160 4602678819172646912,a.eval (.tmp 35)] 29 (0,0)))
theorem wC.same{cs:List x9}{b:Array Bool}{a:Act}(h:wC n v Y m cs b a w)(i d:Nat)(k:o.dst=S d)(c:i≠17)(e:i≠18)(f:i≠20)(g:34≠d)(j:35≠d): ∀u,wC n v Y m cs (b.setIfInBounds i true) (a.put o.dst u) w:=by intro u;unfold wC;rw[k,fD g,fD j,z9 false c,z9 false e,z9 false f];exact h
theorem wC.call{s:World}{k:Nat}{cs:List x9}{b:Array Bool}{a:Act}(h:wC n v Y k cs b a w)(i d:Nat)(t:o.dst=S d)(f:i≠17)(g:i≠18)(j:i≠20)(l:34≠d)(m:35≠d)
  (p:b.getD 17 false=false)(e:b.getD 18 false=false)(q:b.getD 20 false=false)(r:Below w.heap.size w s)(x:n + 2<=w.heap.size):wC n v Y k cs (b.setIfInBounds i true) (a.put o.dst u) s:=by
 unfold wC;rw[t,fD l,fD m,z9 false f,z9 false g,z9 false j];refine ⟨h.1.trans (r.mono YP),λ_=>(h.2.1 e).kept (di r none) (by cases y:Y.ownBlock<;>simp),λ_=>by rw[r.block _ YP];exact h.2.2.1 q,λc=> ?_,λc=> ?_,λc=> ?_⟩
 ·rw[p]at c;cases c
 ·rw[e]at c;cases c
 grind
theorem wC.build{a:Array Bool}(h:wC m v u A j a M w)(i:M.tmps.size=n)(t:34<n)(k:o.dst=S 34)
  (b:a.getD 18 false=false)(c:a.getD 20 false=false){d e f:x9}(l:cY Y)(p:cY d)(q:cY e)(r:cY f)(y:m + 2<=w.heap.size):
  wC m v u A j (a.setIfInBounds 17 true) (M.put o.dst (K3 (S ⟨w.heap.size,0,none⟩) 1 1)) (w.alloc (.cells #[J7 J8 4607182418800017408 0,Y,d,e,f] 70)):=by
 unfold wC;rw[k,qh YP,fD YP,z9 false (by omega:17≠18),z9 false (by omega:17≠20)];refine ⟨h.1.alloc YP _,λ_=>(h.2.1 b).alloc _,λ_=>by rw[H8 _ _ _ YP];exact h.2.2.1 c,λ_ _=>⟨w.heap.size,Y,d,e,f,R,λz x s=> ?_,l,p,q,r⟩,λg=> ?_,λg=> ?_⟩
 ·rw[B2 _ w.heap.size _ _ _ _ (C7 _ _),G6,E8];exact s
 ·rw[b]at g;cases g
 grind
theorem wC.append{q f:World}{v:x9}{c:List x9}{a:Array Bool}(h:wC m q v A j a M w)(s:M.tmps.size=n)(y:35<n)(g:a.size=21)(t:o.dst=S 35)
  (i:a.getD 18 false=false)(k:a.getD 20 false=false)(r:w.grownBy f v.ownBlock)(l:f.ownsRow (m + 2) 70 5 u (A + 1) c)(p:iD c (A + 1))(z:m + 2<=w.heap.size):
  wC m q v A j (a.setIfInBounds 18 true) (M.put o.dst u) f:=by
 have b:=h.2.1 i;unfold wC;rw[t,qh YP,fD YP,bS g YP,z9 false (by omega:18≠17),z9 false (by omega:18≠20)];refine ⟨h.1.grown r YP (λx e=>by have:=(b.lt x e).1;omega),(λd=>by cases d),λ_=> ?_,(λ_ d=>by cases d),λ_=>⟨c,R,l,p⟩,λd=> ?_⟩
 ·rw[r.block _ YP (rW b YP)];exact h.2.2.1 k
 grind
theorem wC.store{a:Array Bool}(h:wC n v u m j a M w)(c:a.size=21)(k:o.dst=none)
  (d:a.getD 18 false=true)(l:w.heap[n + 1]? =S (.cells #[J7 J8 4604930618986332160 4602678819172646912,u] 29 (0,0)))(x:M.eval (.tmp 35)= K3 (S ⟨A,0,none⟩) (m + 1) J):
  wC n v u m j (a.setIfInBounds 20 true) (M.put o.dst U) (w.setCell ⟨n + 1,1,none⟩ (K3 (S ⟨A,0,none⟩) (m + 1) J)):=by
 obtain ⟨e,_,f,g⟩:=h.2.2.2.2.1 d;have b: ∀t,(M.put o.dst U).eval (.tmp t)=M.eval (.tmp t):=λt=>by rw[k];rfl
 unfold wC;rw[b,b,bS c YP,z9 false (by omega:20≠17),z9 false (by omega:20≠18)];refine ⟨h.1.setCell (A2 _) _,λi=> ?_,(λi=>by cases i),λ_ i=> ?_,λ_=>⟨e,R,ownsRow_setCell_below f YR _,g⟩,λ_=> ?_⟩
 ·grind
 ·grind
 ·rw[x];simp only[G3,E7,if_pos,l,B6];rfl
theorem sB (ad:Option I8)(n c:Nat)(G:Nat->Nat)(w:World)(a5:n<=140737488351232)
  (hb: ∀j,j<n-> ∃b r,ad=S ⟨b,r,none⟩/\b<w.heap.size/\G j<256/\w.cell? ⟨b,r + j,none⟩=S (.int .u8 (G j))):
  C1 Try.prog 5 #[.slice ad n c] w λe w'=>uy w e w':=by
 obtain ⟨i0,c7,c9,d0,d1⟩:=B1 BB;have Hb:=au hb;clear hb;have a6:=aW;go_enter Try.func5,Try.ntmps5
 go_wp2_with fail
 clear a6;obtain ⟨W,hW⟩: ∃W,W=(w.alloc (A9 #[J7 J8 0 0,.slice none 0 0] 29)).alloc (A9 #[J7 J8 4604930618986332160 4602678819172646912,.slice none 0 0] 29):=⟨_,R⟩;rw[<-hW];have a7:Below w.heap.size w W:=by rw[hW];exact ((G5 _ _).alloc (Nat.le_refl _) _).alloc YR _
 have a8:w.heap.size + 2<=W.heap.size:=by rw[hW];simp
 have D:W.heap[w.heap.size]? =S (.cells #[J7 J8 0 0,.slice none 0 0] 29 (0,0)):=by rw[hW,H8 _ _ _ YR];exact C7 _ _
 have F:W.heap[w.heap.size + 1]? =S (.cells #[J7 J8 4604930618986332160 4602678819172646912,.slice none 0 0] 29 (0,0)):=by rw[hW,show w.heap.size + 1=(w.alloc (A9 #[J7 J8 0 0,.slice none 0 0] 29)).heap.size by simp];exact C7 _ _
 clear hW;go_loopw [4] (λi wr=> ∃ (k I:Nat)(v:Value)(cs:List Value),I=3 * k/\k<=4/\i= J9 K1 I/\wr.heap[w.heap.size]? =S (.cells #[J7 J8 0 0,.slice none 0 0] 29 (0,0))/\wr.heap[w.heap.size + 1]? =S (.cells #[J7 J8 4604930618986332160 4602678819172646912,v] 29 (0,0))/\
   wr.ownsRow (w.heap.size + 2) 70 5 v k cs/\iD cs k/\Below w.heap.size w wr/\w.heap.size + 2<=wr.heap.size) (λi _=>20 - (intOf i).toNat)
 case atStart=>exact ⟨0,0,.slice none 0 0,[],R,YP,R,D,F,World.ownsRow_nil _ _ _ _,⟨R,λi hi=>YP⟩,a7,a8⟩
 case round=>
  clear D F a7 a8;obtain ⟨k,I,v,cs,a,hk,rfl,D,F,p,A,t,e4⟩:=hrel;by_cases d2:I + 2<n/\I<12
  ·obtain ⟨e5,e6⟩:=d2;have M:(I:Int) + 2<(n:Int):=YP;have a9:(I:Int)<12:=YP;have e7:(0:Int)<=(I:Int):=YP;have e8:(I:Int)<(n:Int):=YP;have e9:(0:Int)<=(I:Int) + 1:=YP;have f0:((I:Int) + 1).toNat=I + 1:=YP;have f5:(I:Int) + 1<(n:Int):=YP;have f6:(0:Int)<=(I:Int) + 2:=YP;have f7:((I:Int) + 2).toNat=I + 2:=YP;obtain ⟨b,r,rfl,T,b0,b5⟩:=ae Hb I YP;obtain ⟨b',O,e,_,b6,b7⟩:=ae Hb (I + 1) YP;obtain ⟨rfl,rfl⟩:b'=b/\O=r:=YS;obtain ⟨b,r,e',_,b8,b9⟩:=ae Hb (I + 2) YP;obtain ⟨rfl,rfl⟩:b=b'/\r=O:=YS;clear e e';have k1:wr.cell? ⟨b,r + I,none⟩=S (.int .u8 (G I)):=by rw[t.cell (by exact T)];exact b5
   have k2:wr.cell? ⟨b,r + (I + 1),none⟩=S (.int .u8 (G (I + 1))):=by rw[t.cell (by exact T)];exact b7
   have k3:wr.cell? ⟨b,r + (I + 2),none⟩=S (.int .u8 (G (I + 2))):=by rw[t.cell (by exact T)];exact b9
   have kF:wr.cell? ⟨w.heap.size + 1,1,none⟩=S v:=by rw[B2 wr _ _ _ _ _ F];rfl
   have fF:wr.frozen? ⟨w.heap.size + 1,1,none⟩=false:=D7 wr _ _ _ _ F;have Hs:=au (wh (G I) (G (I + 1)) (G (I + 2)) b0 b6 b8);have HI:=au a;have Hr:=au (And.intro D (And.intro F (And.intro A (And.intro p t))));have f8:b<wr.heap.size:=YP;clear b5 b7 b9 a b0 b6 b8;go_wp2_with fail
   rename_i K hK;have HK:=au hK;clear hK;refine cv (wV w.heap.size b r I n c k G v) (wC w.heap.size wr v k cs) Zn Zn Zn 38 Zn R ?_ ?_ ?_
   ·exact ⟨(G5 _ _).drew,λ_=>p.drew,λ_=>F,λh=>by simp at h,λh=>by simp at h,λh=>by simp at h⟩
   ·intro listed d H i o a ho c1 J s;have hi:i<21:=by simpa using (Array.getElem?_eq_some_iff.1 ho).1
    have l:=a.world;have f:listed.size=21:=c1;have y: ∀q x,wr.cell? ⟨b,q,none⟩=S x->H.cell? ⟨b,q,none⟩=S x:=λq x h=>by rw[l.1.cell (by show b<_;omega)];exact h
    rcases (by omega:i=0\/i=1\/i=2\/i=3\/i=4\/i=5\/i=6\/i=7\/i=8\/i=9\/i=10\/i=11\/i=12\/i=13\/i=14\/i=15\/i=16\/i=17\/i=18\/i=19\/i=20)with rfl | rfl | rfl | rfl | rfl | rfl | rfl | rfl | rfl | rfl | rfl | rfl | rfl | rfl | rfl | rfl | rfl | rfl | rfl | rfl | rfl
    all_goals obtain rfl:=A5 ho
    ·exact (bI R R (a.base 3 Zn) (kq _ _) R (l.same 0 17 R YP YP YP YP YP)).lv
    ·have u20:=a.fK f YP J 20 R ⟨1,.phase⟩ YR R R;have B:=l.2.2.1 u20;exact (bY R R (a.slot 0 _ 17 R R (s ⟨0,.data⟩ YR R)) (qS _ _ _ (by rw[B2 H _ _ _ _ _ B];rfl)) R (l.same 1 18 R YP YP YP YP YP)).lv
    ·exact (br R R (a.base 0 Zn) R (l.same 2 19 R YP YP YP YP YP)).lv
    ·exact (br R R (a.base 4 Zn) R (l.same 3 20 R YP YP YP YP YP)).lv
    ·exact (fL R R (a.slot 2 _ 19 R R (s ⟨2,.data⟩ YR R)) (a.slot 3 _ 20 R R (s ⟨3,.data⟩ YR R)) (gC _ _ _ _ _ _ YP) R (l.same 4 21 R YP YP YP YP YP)).lv
    ·exact (bY R R (a.slot 4 _ 21 R R (s ⟨4,.data⟩ YR R)) (jC _ _ _ (y _ _ k1)) R (l.same 5 22 R YP YP YP YP YP)).lv
    ·exact (br R R (a.base 0 Zn) R (l.same 6 23 R YP YP YP YP YP)).lv
    ·exact (br R R (a.base 4 Zn) R (l.same 7 24 R YP YP YP YP YP)).lv
    ·exact (zT (m:=1) R R (a.slot 7 _ 24 R R (s ⟨7,.data⟩ YR R)) YP R (l.same 8 25 R YP YP YP YP YP)).lv
    ·exact (fL R R (a.slot 6 _ 23 R R (s ⟨6,.data⟩ YR R)) (a.slot 8 _ 25 R R (s ⟨8,.data⟩ YR R)) (gC _ _ _ _ _ _ YP) R (l.same 9 26 R YP YP YP YP YP)).lv
    ·exact (bY R R (a.slot 9 _ 26 R R (s ⟨9,.data⟩ YR R)) (jC _ _ _ (y _ _ k2)) R (l.same 10 27 R YP YP YP YP YP)).lv
    ·exact (br R R (a.base 0 Zn) R (l.same 11 28 R YP YP YP YP YP)).lv
    ·exact (br R R (a.base 4 Zn) R (l.same 12 29 R YP YP YP YP YP)).lv
    ·exact (zT (m:=2) R R (a.slot 12 _ 29 R R (s ⟨12,.data⟩ YR R)) YP R (l.same 13 30 R YP YP YP YP YP)).lv
    ·exact (fL R R (a.slot 11 _ 28 R R (s ⟨11,.data⟩ YR R)) (a.slot 13 _ 30 R R (s ⟨13,.data⟩ YR R)) (gC _ _ _ _ _ _ YP) R (l.same 14 31 R YP YP YP YP YP)).lv
    ·exact (bY R R (a.slot 14 _ 31 R R (s ⟨14,.data⟩ YR R)) (jC _ _ _ (y _ _ k3)) R (l.same 15 32 R YP YP YP YP YP)).lv
    ·have V:=a.slot 5 _ 22 R R (s ⟨5,.data⟩ YR R);have x2:=a.slot 10 _ 27 R R (s ⟨10,.data⟩ YR R);have x3:=a.slot 15 _ 32 R R (s ⟨15,.data⟩ YR R);have u17:=a.fK f YP J 17 R ⟨16,.data⟩ YR R R;have u18:=a.fK f YP J 18 R ⟨16,.chain⟩ YR R R;have u20:=a.fK f YP J 20 R ⟨16,.phase⟩ YR R R;refine vL R V x2 x3 ((ae Hs H).mono ?_);rintro e w3 ⟨r1,j1,r3,j3,r4,j4,rfl,X,Y,Z,d3⟩;refine ⟨_,R,aj R ⟨_,_,_,_,R,X,KR,Y,Z⟩,?_⟩;have a0:=l.1.size;exact l.call 16 33 R YP YP YP YP YP u17 u18 u20 d3 YP
    ·obtain ⟨u1,u2,u3,u4,V,X,f2,Y,Z⟩:=a.slot 16 _ 33 R R (s ⟨16,.data⟩ YR R);have u18:=a.fK f YP J 18 R ⟨17,.data⟩ YR R R;have u20:=a.fK f YP J 20 R ⟨17,.phase⟩ YR R R;have a0:=l.1.size;refine .inl ⟨K3 (S ⟨H.heap.size,0,none⟩) 1 1,H.alloc (.cells #[J7 J8 4607182418800017408 0,u1,u2,u3,u4] 70),?_,aj R ⟨_,R⟩,?_⟩
     ·obtain ⟨a1,b1,rfl,_⟩:=X;obtain ⟨a2,b2,rfl,_⟩:=f2;obtain ⟨a3,b3,rfl,_⟩:=Y;obtain ⟨a4,b4,rfl,_⟩:=Z;simp[w8,V,xo]
     ·exact l.build a.size (show 34<38 by omega) R u18 u20 X f2 Y Z YP
    ·have V:=a.slot 1 _ 18 R R (s ⟨1,.data⟩ YR R);have u18:=cz J f YP;have u20:=a.fK f YP J 20 R ⟨18,.data⟩ YR R R;have d4:=s ⟨17,.data⟩ YR R;have a0:=l.1.size;obtain ⟨N,u1,u2,u3,u4,x2,hN,X,f2,Y,Z⟩:=l.2.2.2.1 d4 u18;have c2:=run_append_own (P:=Try.prog) H (w.heap.size + 2) 27 27 70 i0 (.agg #[c0,c0,c0,c0,c0]) 5 80 Try.underlying27 c7 c9 d0 d1 R YP v k cs (l.2.1 u18) ⟨N,0,none⟩ 1 1 [J7 J8 4607182418800017408 0,u1,u2,u3,u4] R
      (λj u hu=>by rw[H6];exact hN j u hu) (by intro u hu;simp at hu;rcases hu with rfl | rfl | rfl | rfl | rfl;rfl;exact X.one;exact f2.one;exact Y.one;exact Z.one) Zp YP YP
     obtain ⟨v',w3,hr,L,d5,e3⟩:=c2;have d6: ∃g C,v'= K3 (S ⟨g,0,none⟩) (k + 1) C:=by
      rcases L.2 with ⟨_,h0⟩ | ⟨g,C,_,h0,_⟩
      ·omega
      ·exact ⟨g,C,h0⟩
     refine yo R V x2 hr ⟨aj R d6,?_⟩;exact l.append a.size (show 35<38 by omega) f R u18 u20 d5 L (A.push X f2 Y Z) YP
    ·exact (bI R R (a.base 3 Zn) (kq _ _) R (l.same 19 36 R YP YP YP YP YP)).lv
    ·have V:=a.slot 19 _ 36 R R (s ⟨19,.data⟩ YR R);obtain ⟨g,C,x2⟩:=a.slot 18 _ 35 R R (s ⟨18,.data⟩ YR R);have u20:=cz J f YP;have d7:=s ⟨18,.data⟩ YR R;have B:=l.2.2.1 u20;have a0:=l.1.size;exact BN R V x2 (yM _ _ _ _ v _ (by rw[B2 H _ _ _ _ _ B];rfl) (D7 H _ _ _ _ B)) ⟨λd' h=>(by cases h),l.store f R d7 B x2⟩
   ·intro listed d H a z;have d8:=a.slot 18 _ 35 R R (z 18 YQ);have E:=gZ d 38 a.size;rw[a.defers]at E;replace E:d=⟨#[d.eval (.tmp 0),d.eval (.tmp 1),d.eval (.tmp 2),d.eval (.tmp 3),d.eval (.tmp 4),d.eval (.tmp 5),d.eval (.tmp 6),d.eval (.tmp 7),d.eval (.tmp 8),d.eval (.tmp 9),d.eval (.tmp 10),d.eval (.tmp 11),d.eval (.tmp 12),d.eval (.tmp 13),d.eval (.tmp 14),d.eval (.tmp 15),d.eval (.tmp 16),d.eval (.tmp 17),d.eval (.tmp 18),d.eval (.tmp 19),d.eval (.tmp 20),d.eval (.tmp 21),d.eval (.tmp 22),d.eval (.tmp 23),d.eval (.tmp 24),d.eval (.tmp 25),d.eval (.tmp 26),d.eval (.tmp 27),d.eval (.tmp 28),d.eval (.tmp 29),d.eval (.tmp 30),d.eval (.tmp 31),d.eval (.tmp 32),d.eval (.tmp 33),d.eval (.tmp 34),d.eval (.tmp 35),d.eval (.tmp 36),d.eval (.tmp 37)],_⟩:=E;rw[a.base 0 Zn,a.base 1 Zn,a.base 2 Zn,a.base 3 Zn,a.base 4 Zn,a.base 5 Zn,a.base 6 Zn,a.base 7 Zn,a.base 8 Zn,a.base 9 Zn,a.base 10 Zn,a.base 11 Zn,a.base 12 Zn,a.base 13 Zn,a.base 14 Zn,a.base 15 Zn,a.base 16 Zn,a.base 37 Zn]at E;have hw:=a.world;clear a;generalize d.eval (.tmp 17)=f9 at E;generalize d.eval (.tmp 18)=g2 at E;generalize d.eval (.tmp 19)=g3 at E;generalize d.eval (.tmp 20)=g4 at E;generalize d.eval (.tmp 21)=g5 at E;generalize d.eval (.tmp 22)=g6 at E;generalize d.eval (.tmp 23)=g7 at E;generalize d.eval (.tmp 24)=g8 at E;generalize d.eval (.tmp 25)=g9 at E;generalize d.eval (.tmp 26)=h3 at E;generalize d.eval (.tmp 27)=h4 at E;generalize d.eval (.tmp 28)=h5 at E;generalize d.eval (.tmp 29)=h6 at E;generalize d.eval (.tmp 30)=h7 at E;generalize d.eval (.tmp 31)=h8 at E;generalize d.eval (.tmp 32)=h9 at E;generalize d.eval (.tmp 33)=i1 at E;generalize d.eval (.tmp 34)=i2 at E hw;generalize d.eval (.tmp 35)=d9 at E d8 hw;generalize d.eval (.tmp 36)=i3 at E;simp[Act.eval]at E;subst E;obtain ⟨c3,_,_,_,c4,c5⟩:=hw;obtain ⟨e0,i4,L,c6⟩:=c4 (z 18 YQ);have e1:=c5 (z 20 YQ);refine ae HK _ _ ?_;clear HK z c4 c5;go_wp2
    go_roundw
    case rel=>refine ⟨k + 1,I + 3,d9,e0,by have:=ae HI;omega,by have:=ae HI;omega,by go_num,?_,e1,L,c6,t.trans (c3.mono YP),YS⟩;rw[c3.block _ YP];exact D
    case measure=>simp[intOf];omega
  ·obtain ⟨ao,m,cp,rfl⟩: ∃ao m cp,v= .slice ao m cp:=by
    rcases p.2 with ⟨rfl,_⟩ | ⟨g,C,i5,rfl,_⟩
    ·exact ⟨_,_,_,R⟩
    simp
   have q0:wr.cell? ⟨w.heap.size + 1,0,none⟩=S (J7 J8 4604930618986332160 4602678819172646912):=by rw[B2 wr _ _ _ _ _ F];rfl
   have q1:wr.cell? ⟨w.heap.size + 1,1,none⟩=S (.slice ao m cp):=by rw[B2 wr _ _ _ _ _ F];rfl
   have t0:wr.cell? ⟨w.heap.size,0,none⟩=S (J7 J8 0 0):=by rw[B2 wr _ _ _ _ _ D];rfl
   have t1:wr.cell? ⟨w.heap.size,1,none⟩=S (.slice none 0 0):=by rw[B2 wr _ _ _ _ _ D];rfl
   have g0:wr.frozen? ⟨w.heap.size,0,none⟩=false:=D7 wr _ _ _ _ D;have g1:wr.frozen? ⟨w.heap.size,1,none⟩=false:=D7 wr _ _ _ _ D;have a6:=aW;have i6:(I:Int)<=12:=YP;have Hq:=au (And.intro p (And.intro A (And.intro t (And.intro t0 t1))));have HI:=au a;clear D F p A t a;have Q: ∀a2:Act,a2.tmps.getD 2 U= K4 (S ⟨w.heap.size,0,none⟩)->a2.defers= []->bodyPost Try.prog Try.f5 (λe w'=>uy w e w') Exit.ret a2
     ((wr.setCell ⟨w.heap.size,0,none⟩ (J7 J8 4604930618986332160 4602678819172646912)).setCell ⟨w.heap.size,1,none⟩ (.slice ao m cp)):=by
    intro a2 h2 e2;obtain ⟨p,A,t,t0,t1⟩:=ae Hq;refine bodyPost_ret (gv R (b:=w.heap.size) h2 (I2 _ w.heap.size 0 29 [J7 J8 4604930618986332160 4602678819172646912,.slice ao m cp] _ ?_ Try.underlying29 R nH)) e2 ?_
    ·intro j x hx;have hj:j<2:=YS;rcases (by omega:j=0\/j=1)with rfl | rfl
     ·obtain rfl:=A5 hx;rw[gn YR];exact iV t0
     ·obtain rfl:=A5 hx;exact iV (u:= .slice none 0 0) (by rw[gn YR];exact t1)
    ·exact ⟨.slice ao m cp,k,cs,R,hk,IY (E9 (E9 p YR _) YR _) A,(t.setCell (Nat.le_refl _) _).setCell (Nat.le_refl _) _⟩
   have He:=au Q;clear Q;by_cases h1:I + 2<n
   ·have M:(I:Int) + 2<(n:Int):=by omega
    have a9: ¬ ((I:Int)<12):=YP;go_wp2
    refine ae He _ ?_ ?_<;>rfl
   ·have M: ¬ ((I:Int) + 2<(n:Int)):=by omega
    go_wp2
    refine ae He _ ?_ ?_<;>rfl
noncomputable def B3:G0:=match Try.f3.body with | some c=>c | _=> .skip
def eb (w:World)(e:Option I8)(c:Nat)(d:Nat->Nat):Prop:= ∀j,j<c-> ∃b a,e=S ⟨b,a,none⟩/\b<w.heap.size/\d j<256/\w.cell? ⟨b,a + j,none⟩=S (.int .u8 (d j))
theorem eb.av(h:eb v e n B)(k:aA v w):eb w e n B:=λj c=>by obtain ⟨b,a,d,f,g,i⟩:=h j c;exact ⟨b,a,d,z4 f k.1,g,k.2 _ _ i⟩
theorem Jn{v:x9}(h:w.ownsRow n 26 1 v m ((I4 m).map (vX B)))(c: ∀j,B j<18446744073709551616):bj w v m (IL B):=by
 rcases id h.2 with ⟨rfl,rfl⟩ | ⟨g,a,d,rfl,_,i,e,_⟩
 ·exact ⟨none,0,R,λj f=>YP⟩
 ·have b:g<w.heap.size:=by grind
  refine ⟨_,a,R,λj f=>⟨g,0,vX B j,R,b,?_,?_⟩⟩
  ·have:=h.cells (g:=g) R j (vX B j) YS;rwa[H6]at this
  ·exact aS.of _ _ (c _) (c _)
noncomputable def T3:G0:=match Try.f3.body with | some (.seq _ (.seq _ (.seq _ c)))=>c | _=> .skip
theorem tx{b:Nat}(a:o.op= .slice 24 (.tmp m) none (S (.const (J9 K1 100))) none)(d:x7 ⟨y,[]⟩ (.tmp m)= K3 (S ⟨b,A,none⟩) n J)(g:100<=J):
  (w8 (x7 ⟨y,[]⟩) o).run Try.prog w= .ok (.value (K3 (S ⟨b,A,none⟩) 100 J)) w/\(w8 (x7 ⟨y,[]⟩) o).events Try.prog w #[]= #[]:=by
 have c:(100:Int)<=(J:Int):=YP;have e: ¬ (J:Int)<100:=YP;constructor
 ·unfold w8;simp only[a,d];go_simp
 ·unfold w8;simp only[a,d];have f:=Try.underlying24;simp[Instr.sliceAt,Instr.slice,Instr.sliceBounds,Instr.sliceBound,asIntOf,go_sem,E4,G1 f,c]
theorem yv{rest:List Nat}{d b:Nat}(e:h[m]? =S o)(f:o.guard=none)(g:o.dst=S d)(c:o.op= .slice 24 (.tmp A) none (S (.const (J9 K1 100))) none)
  (i:x7 ⟨y,[]⟩ (.tmp A)= K3 (S ⟨b,J,none⟩) n L)(j:100<=L):J6 Try.prog H (G (ak q y (.inRegion h (m::rest)::k)) l) w= .go (G (ak q (y.setIfInBounds d (K3 (S ⟨b,J,none⟩) 100 L)) (.inRegion h rest::k)) l) w #[]:=by
 have p:A7 o (J2 h (D8 y []).tmps)=true:=by unfold A7;rw[f]
 obtain ⟨r,s⟩:=tx (w:=w) c i j;have:=D5 (P:=Try.prog) (main:=H) (b:=ak q y []) (a:=⟨y,[]⟩) (k:=k) (cs:=l) (rest:=rest) e p (by simp[ak]) r;have t:C8 Try.prog (ak q y []).fn ⟨y,[]⟩ o w= #[]:=by unfold C8;rw[s];exact H9 _ _
 rw[t,g]at this;exact this
theorem VR.Mb{b:Nat}(h:VR c (K3 (S ⟨b,m,none⟩) n A) u): ∃e,u= K3 (S ⟨e,m,none⟩) n A/\c[b]? =S (e,.cells):=by
 cases h with
 | @slice _ a _ _ d=>obtain ⟨f,g,i⟩:=d;simp_all
theorem bj.cut(h:bj w (.slice e n A) n X)(d:m<=n):bj w (.slice e m A) m X:=by obtain ⟨b,f,a,c⟩:=h;simp only[D6]at a;obtain ⟨rfl,_,rfl⟩:=a;exact ⟨_,_,R,λj g=>c j YP⟩
section
variable {Fin:aq->Goroutine->World->Nat->Prop}{a1 a2 a4:Option Addr}{c1 c2 c4:Nat}{b3:Int}
theorem KT (f:At (E0 T) c v F bO w)(hv:aB c #[.slice e n O,.slice a1 m c1,.slice a2 A c2,.int .u8 b3,.slice a4 J c4,U,U,U,U,U,U,U,U,U,U,U,U,U,U,U,U,U,U,U,U,U,U,U,U,U,U,U,U,U,U,U,U,U,U,U,U,U,U,U,U,U,U,U,U,U,U,U,U,U,U,U,U,U,U,U,U,U,U,U,U,U,U,U,U,U,U,U,U,U,U,U,U,U,U,U,U,U,U,U,U,U,U,U,U,U,U,U,U,U,U,U,U,U,U,U,U,U,U,U,U,U,U,U,U,U,U,U,U,U,U,U,U,U,U,U,U,U,U,U,U,U,U,U,U,U,U,U,U,U,U,U,U,U,U,U,U,U,U,U,U,U,U,U,U,U,U,U,U,U,U,U,U,U,U,U,U,U,U,U,U,U,U,U,U,U,U,U,U,U,U,U,U,U,U,U,U,U,U,U,U,U,U,U,U,U,U,U,U,U,U,U,U,U,U,U,U,U,U,U,U,U,U,U,U,U,U,U,U,U,U,U,U,U,U,U,U,U,U,U,U,U,U,U,U,U,U,U,U,U,U,U,U,U,U,U,U,U,U,U,U,U,U,U,U,U,U,U,U,U,U,U,U,U,U,U,U,U,U,U,U,U,U,U,U,U,U,U,U,U,U,U,U,U,U,U,U,U,U,U,U,U,U,U,U,U,U,U,U,U,U,U,U,U,U,U,U,U,U,U,U,U,U,U,U,U,U,U,U,U,U,U] y)(b0: ∀j,B j<18446744073709551616)(M:A * 8<=140737488351232)(hb: ∀j,j<A-> ∃b i,a2=S ⟨b,i,none⟩/\b<v.heap.size/\v.cell? ⟨b,i + j,none⟩=S (.int .u64 (B j)))
  (hK: ∀X r F' w' c5 u47 u48 s a0 k,Ext c X->At (E0 T) X r F' bO w'->aA v r->bj r (.slice s a0 k) a0 (IL B)->a0<=100->a0<=k->(∃u43 u44 u45 u46,aB X #[.slice e n O,.slice a1 m c1,.slice a2 A c2,.int .u8 b3,.slice a4 J c4,U,U,U,U,U,.bool false,.slice s a0 k,U,U,U,U,U,U,U,U,U,U,U,U,U,U,U,U,U,U,U,U,U,U,U,U,U,U,U,U,U,U,.slice a2 A c2,u43,u44,u45,u46,u47,u48,U,U,U,U,U,U,U,U,U,U,U,U,U,U,U,U,U,U,U,U,U,U,U,U,U,U,U,U,U,U,U,U,U,U,U,U,U,U,U,U,U,U,U,U,U,U,U,U,U,U,U,U,U,U,U,U,U,U,U,U,U,U,U,U,U,U,U,U,U,U,U,U,U,U,U,U,U,U,U,U,U,U,U,U,U,U,U,U,U,U,U,U,U,U,U,U,U,U,U,U,U,U,U,U,U,U,U,U,U,U,U,U,U,U,U,U,U,U,U,U,U,U,U,U,U,U,U,U,U,U,U,U,U,U,U,U,U,U,U,U,U,U,U,U,U,U,U,U,U,U,U,U,U,U,U,U,U,U,U,U,U,U,U,U,U,U,U,U,U,U,U,U,U,U,U,U,U,U,U,U,U,U,U,U,U,U,U,U,U,U,U,U,U,U,U,U,U,U,U,U,U,U,U,U,U,U,U,U,U,U,U,U,U,U,U,U,U,U,U,U,U,U,U,U,U,U,U,U,U,U,U,U,U,U,U,U,U,U,U,U,U,U,U,U,U,U,U,U,U,U,U,U,U,U,U,U,U,U,U,U,U,U,U,U,U,U,U] c5)->cO Fin T F' (G (ak 3 c5 [.code T3]) l) w'):
  cO Fin T F (G (ak 3 y [.code B3]) l) w:=by
 have e3:B3=B3:=rfl;conv at e3=>rhs;unfold B3;simp only[Try.f3]
 rw[e3];clear e3;refine aa.ah f λw f=> ?_;refine aa.ej (Q:=λN r=>N= #[.slice e n O,.slice a1 m c1,.slice a2 A c2,.int .u8 b3,.slice a4 J c4,U,U,U,U,U,.bool false,U,U,U,U,U,U,U,U,U,U,U,U,U,U,U,U,U,U,U,U,U,U,U,U,U,U,U,U,U,U,U,U,U,U,U,U,U,U,U,U,U,U,U,U,U,U,U,U,U,U,U,U,U,U,U,U,U,U,U,U,U,U,U,U,U,U,U,U,U,U,U,U,U,U,U,U,U,U,U,U,U,U,U,U,U,U,U,U,U,U,U,U,U,U,U,U,U,U,U,U,U,U,U,U,U,U,U,U,U,U,U,U,U,U,U,U,U,U,U,U,U,U,U,U,U,U,U,U,U,U,U,U,U,U,U,U,U,U,U,U,U,U,U,U,U,U,U,U,U,U,U,U,U,U,U,U,U,U,U,U,U,U,U,U,U,U,U,U,U,U,U,U,U,U,U,U,U,U,U,U,U,U,U,U,U,U,U,U,U,U,U,U,U,U,U,U,U,U,U,U,U,U,U,U,U,U,U,U,U,U,U,U,U,U,U,U,U,U,U,U,U,U,U,U,U,U,U,U,U,U,U,U,U,U,U,U,U,U,U,U,U,U,U,U,U,U,U,U,U,U,U,U,U,U,U,U,U,U,U,U,U,U,U,U,U,U,U,U,U,U,U,U,U,U,U,U,U,U,U,U,U,U,U,U,U,U,U,U,U,U,U,U,U,U,U,U,U,U,U,U,U,U,U,U,U]/\r.heap=v.heap) bh ⟨_,Try.func3⟩ Zo Zn YU YU f hv (λtp=> ?_) ?_
 ·clear f hv;go_wp2
  rfl
 ·rintro c7 x1 y1 v1 w1 F1 b1 c9 ⟨rfl,x⟩ f a3;have q:aA v v1:=⟨YS,λa u h=>by unfold w7 at h ⊢;grind⟩;refine aa.ah f λw f=> ?_;refine aa.ej (Q:=λN r=> ∃s k,N= #[.slice e n O,.slice a1 m c1,.slice a2 A c2,.int .u8 b3,.slice a4 J c4,U,U,U,U,U,.bool false,.slice s (A / 2) k,U,U,U,U,U,U,U,U,U,U,U,U,U,U,U,U,U,U,U,U,U,U,U,U,U,U,U,U,U,U,.slice a2 A c2,.slice s (A / 2) k,U,U,U,U,U,U,U,U,U,U,U,U,U,U,U,U,U,U,U,U,U,U,U,U,U,U,U,U,U,U,U,U,U,U,U,U,U,U,U,U,U,U,U,U,U,U,U,U,U,U,U,U,U,U,U,U,U,U,U,U,U,U,U,U,U,U,U,U,U,U,U,U,U,U,U,U,U,U,U,U,U,U,U,U,U,U,U,U,U,U,U,U,U,U,U,U,U,U,U,U,U,U,U,U,U,U,U,U,U,U,U,U,U,U,U,U,U,U,U,U,U,U,U,U,U,U,U,U,U,U,U,U,U,U,U,U,U,U,U,U,U,U,U,U,U,U,U,U,U,U,U,U,U,U,U,U,U,U,U,U,U,U,U,U,U,U,U,U,U,U,U,U,U,U,U,U,U,U,U,U,U,U,U,U,U,U,U,U,U,U,U,U,U,U,U,U,U,U,U,U,U,U,U,U,U,U,U,U,U,U,U,U,U,U,U,U,U,U,U,U,U,U,U,U,U,U,U,U,U,U,U,U,U,U,U,U,U,U,U,U,U,U,U,U,U,U,U,U,U,U,U,U,U,U,U,U,U,U,U,U,U,U,U,U,U,U,U,U,U,U,U,U]/\bj r (.slice s (A / 2) k) (A / 2) (IL B)/\(0<A / 2->A / 2<=k)/\ar v1 r) bh ⟨_,Try.func3⟩ Zo Zn YU YU f a3 (λtp=> ?_) ?_
  ·have Hr:=au (IM a2 A c2 B (aK v1 tp 0) M (λj hj=>by obtain ⟨b,i,a5,h1,h2⟩:=hb j hj;exact ⟨b,i,a5,z4 h1 q.1,q.2 _ _ h2⟩));clear f a3 q x hb;go_wp2_with (go_at_call 4;refine (ae Hr).mono ?_;rintro a5 w6 ⟨rv,rfl,V,a6⟩);have E:=Jn V b0;obtain ⟨s,k,rfl,_⟩:=id E;refine ⟨s,k,R,E,λhp=> ?_,ar.ba (v:=aK v1 tp 0) a6 (A2 _)⟩;rcases V.2 with ⟨q1,q2⟩ | ⟨g,d0,d1,q1,_,_,q4,_⟩
   ·omega
   grind
  ·rintro d2 x2 y2 v2 w2 F2 b2 d3 ⟨s,k,rfl,E,o,p⟩ f a7;refine aa.ah f λw f=> ?_;refine aa.ah f λw f=> ?_;refine aa.ej (Q:=λN r=>N= #[.slice e n O,.slice a1 m c1,.slice a2 A c2,.int .u8 b3,.slice a4 J c4,U,U,U,U,U,.bool false,.slice s (A / 2) k,U,U,U,U,U,U,U,U,U,U,U,U,U,U,U,U,U,U,U,U,U,U,U,U,U,U,U,U,U,U,.slice a2 A c2,.slice s (A / 2) k,.slice s (A / 2) k,J9 K1 ((A / 2:Nat):Int),.bool (decide ((100:Int)<((A / 2:Nat):Int))),U,U,U,U,U,U,U,U,U,U,U,U,U,U,U,U,U,U,U,U,U,U,U,U,U,U,U,U,U,U,U,U,U,U,U,U,U,U,U,U,U,U,U,U,U,U,U,U,U,U,U,U,U,U,U,U,U,U,U,U,U,U,U,U,U,U,U,U,U,U,U,U,U,U,U,U,U,U,U,U,U,U,U,U,U,U,U,U,U,U,U,U,U,U,U,U,U,U,U,U,U,U,U,U,U,U,U,U,U,U,U,U,U,U,U,U,U,U,U,U,U,U,U,U,U,U,U,U,U,U,U,U,U,U,U,U,U,U,U,U,U,U,U,U,U,U,U,U,U,U,U,U,U,U,U,U,U,U,U,U,U,U,U,U,U,U,U,U,U,U,U,U,U,U,U,U,U,U,U,U,U,U,U,U,U,U,U,U,U,U,U,U,U,U,U,U,U,U,U,U,U,U,U,U,U,U,U,U,U,U,U,U,U,U,U,U,U,U,U,U,U,U,U,U,U,U,U,U,U,U,U,U,U,U,U,U,U,U,U,U,U,U,U,U,U,U,U,U,U,U,U,U,U,U,U,U,U,U,U,U,U,U,U,U,U,U,U,U,U]/\r.heap=v2.heap) bh ⟨_,Try.func3⟩ Zo Zn YU YU f a7 (λtp=> ?_) ?_
   ·have Hv:=au (And.intro E (And.intro o p));clear f a7 E o p q x hb;go_wp2
    rfl
   ·rintro b4 x3 y3 v3 w3 F3 b5 d4 ⟨rfl,z⟩ f H;have P:aA v2 v3:=⟨by rw[z];omega,λa u h=>by unfold w7 at h ⊢;rw[z];exact h⟩;have C:=E.av P;have D:=(q.trans p.av).trans P;have a8:=(b1.trans b2).trans b5;refine aa.go f YR (λ_=>bH (H.bool R)) λw f=> ?_;by_cases c6:100<A / 2
    ·rw[decide_eq_true YP];simp only[if_true];refine aa.aC f λw f=> ?_;obtain ⟨b,i,rfl⟩: ∃b i,s=S ⟨b,i,none⟩:=by obtain ⟨d5,c',a5,h2⟩:=id E;simp only[D6]at a5;obtain ⟨rfl,_⟩:=a5;obtain ⟨b,i,_,h3,_⟩:=h2 0 YP;exact ⟨b,i,h3⟩
     have I:100<=k:=by have:=o YP;omega
     refine aa.ops (L:= [0]) (rest:= [1,2]) (ey:= #[_]) (Q:=λN r=>N= #[.slice e n O,.slice a1 m c1,.slice a2 A c2,.int .u8 b3,.slice a4 J c4,U,U,U,U,U,.bool false,K3 (S ⟨b,i,none⟩) (A / 2) k,U,U,U,U,U,U,U,U,U,U,U,U,U,U,U,U,U,U,U,U,U,U,U,U,U,U,U,U,U,U,.slice a2 A c2,K3 (S ⟨b,i,none⟩) (A / 2) k,K3 (S ⟨b,i,none⟩) (A / 2) k,J9 K1 ((A / 2:Nat):Int),.bool (decide ((100:Int)<((A / 2:Nat):Int))),K3 (S ⟨b,i,none⟩) (A / 2) k,U,U,U,U,U,U,U,U,U,U,U,U,U,U,U,U,U,U,U,U,U,U,U,U,U,U,U,U,U,U,U,U,U,U,U,U,U,U,U,U,U,U,U,U,U,U,U,U,U,U,U,U,U,U,U,U,U,U,U,U,U,U,U,U,U,U,U,U,U,U,U,U,U,U,U,U,U,U,U,U,U,U,U,U,U,U,U,U,U,U,U,U,U,U,U,U,U,U,U,U,U,U,U,U,U,U,U,U,U,U,U,U,U,U,U,U,U,U,U,U,U,U,U,U,U,U,U,U,U,U,U,U,U,U,U,U,U,U,U,U,U,U,U,U,U,U,U,U,U,U,U,U,U,U,U,U,U,U,U,U,U,U,U,U,U,U,U,U,U,U,U,U,U,U,U,U,U,U,U,U,U,U,U,U,U,U,U,U,U,U,U,U,U,U,U,U,U,U,U,U,U,U,U,U,U,U,U,U,U,U,U,U,U,U,U,U,U,U,U,U,U,U,U,U,U,U,U,U,U,U,U,U,U,U,U,U,U,U,U,U,U,U,U,U,U,U,U,U,U,U,U,U,U,U,U,U,U,U,U,U,U,U,U,U,U,U,U,U]/\r.heap=v3.heap) bh ⟨_,Try.func3⟩ Zo 0 (.cons ⟨_,R,R,Zn,R⟩ .nil) Zn YU YU f H (λtp=> ?_) ?_
     ·have Hv:=au (And.intro E (And.intro o (And.intro p (And.intro C D))));clear f H E o p q x hb C D P z hK;go_wp2
      rfl
     ·rintro d6 x4 y4 v4 w4 F4 b6 d7 ⟨rfl,K⟩ f Y;obtain ⟨b',hz,b7⟩:=(Y.ev (t:=47) R).Mb;refine aa.go f YR (λ_=>yv R R R R hz I) λw f=> ?_;have Z:=Y.put (d:=S 48) (.slice (a:=⟨b,i,none⟩) (b:=⟨b',i,none⟩) 100 k ⟨b7,R,R⟩);simp only[A3,B8,C0]at Z;refine aa.ops (L:= [2]) (rest:= []) (ey:= #[_]) (Q:=λN r=>N= #[.slice e n O,.slice a1 m c1,.slice a2 A c2,.int .u8 b3,.slice a4 J c4,U,U,U,U,U,.bool false,K3 (S ⟨b,i,none⟩) 100 k,U,U,U,U,U,U,U,U,U,U,U,U,U,U,U,U,U,U,U,U,U,U,U,U,U,U,U,U,U,U,.slice a2 A c2,K3 (S ⟨b,i,none⟩) (A / 2) k,K3 (S ⟨b,i,none⟩) (A / 2) k,J9 K1 ((A / 2:Nat):Int),.bool (decide ((100:Int)<((A / 2:Nat):Int))),K3 (S ⟨b,i,none⟩) (A / 2) k,K3 (S ⟨b,i,none⟩) 100 k,U,U,U,U,U,U,U,U,U,U,U,U,U,U,U,U,U,U,U,U,U,U,U,U,U,U,U,U,U,U,U,U,U,U,U,U,U,U,U,U,U,U,U,U,U,U,U,U,U,U,U,U,U,U,U,U,U,U,U,U,U,U,U,U,U,U,U,U,U,U,U,U,U,U,U,U,U,U,U,U,U,U,U,U,U,U,U,U,U,U,U,U,U,U,U,U,U,U,U,U,U,U,U,U,U,U,U,U,U,U,U,U,U,U,U,U,U,U,U,U,U,U,U,U,U,U,U,U,U,U,U,U,U,U,U,U,U,U,U,U,U,U,U,U,U,U,U,U,U,U,U,U,U,U,U,U,U,U,U,U,U,U,U,U,U,U,U,U,U,U,U,U,U,U,U,U,U,U,U,U,U,U,U,U,U,U,U,U,U,U,U,U,U,U,U,U,U,U,U,U,U,U,U,U,U,U,U,U,U,U,U,U,U,U,U,U,U,U,U,U,U,U,U,U,U,U,U,U,U,U,U,U,U,U,U,U,U,U,U,U,U,U,U,U,U,U,U,U,U,U,U,U,U,U,U,U,U,U,U,U,U,U,U,U,U,U,U]/\r.heap=v4.heap) bh ⟨_,Try.func3⟩ Zo 0 (.cons ⟨_,R,R,Zn,R⟩ .nil) Zn YU YU f Z (λtp=> ?_) ?_
      ·have Hv:=au (And.intro E (And.intro o (And.intro p (And.intro C D))));clear f H Y Z E o p q x hb C D P z K hK;go_wp2
       rfl
      ·rintro b8 x6 y6 v6 w6 F6 b9 d8 ⟨rfl,W⟩ f c3;refine aa.aH f λw f=> ?_;have a9:aA v3 v6:=⟨by rw[W,K];omega,λa u h=>by unfold w7 at h ⊢;rw[W,K];exact h⟩;exact hK b8 v6 F6 w y6 _ _ (S ⟨b,i,none⟩) 100 k ((a8.trans b6).trans b9) f (D.trans a9) ((C.cut YP).av a9) (A2 _) I ⟨_,_,_,_,c3⟩
    ·rw[decide_eq_false YP];simp only[A8, ↓reduceIte];refine aa.dh f λw f=> ?_;exact hK b4 v3 F3 w y3 U U s (A / 2) k a8 f D C YP ((Nat.eq_zero_or_pos (A / 2)).elim (λh=>YP) o) ⟨_,_,_,_,H⟩
end
noncomputable def T5:G0:=match T3 with | .seq _ (.seq _ c)=>c | _=> .skip
section
variable {ρ:aU}{v:World}{a0 a1 a2 a4:Option Addr}{c0 c1 c2 c4:Nat}{b3:Int}{PZ:Nat->Nat}{u43 u44 u45 u46 u47 u48:Value}
def je (v:World)(f:Nat)(s:x9):Prop:=v.rangeAt f 0 [J7 J8 4604930618986332160 4602678819172646912,s]
theorem ar.alloc (w:World)(o:Obj):ar w (w.alloc o):=⟨YR,λb a=>by show (w.heap.push o)[b]? =_;grind⟩
theorem jz (w:World)(a s:x9)(t:I3):(w.alloc (.cells #[a,s] t)).rangeAt w.heap.size 0 [a,s]:=λj u b=>by simp_all
theorem KU (b:At (E0 T) ρ v F bO w)(N:aB ρ #[.slice a0 A c0,.slice a1 J c1,.slice a2 L c2,.int .u8 b3,.slice a4 O c4,U,U,U,U,U,.bool false,.slice e m n,U,U,U,U,U,U,U,U,U,U,U,U,U,U,U,U,U,U,U,U,U,U,U,U,U,U,U,U,U,U,.slice a2 L c2,u43,u44,u45,u46,u47,u48,U,U,U,U,U,U,U,U,U,U,U,U,U,U,U,U,U,U,U,U,U,U,U,U,U,U,U,U,U,U,U,U,U,U,U,U,U,U,U,U,U,U,U,U,U,U,U,U,U,U,U,U,U,U,U,U,U,U,U,U,U,U,U,U,U,U,U,U,U,U,U,U,U,U,U,U,U,U,U,U,U,U,U,U,U,U,U,U,U,U,U,U,U,U,U,U,U,U,U,U,U,U,U,U,U,U,U,U,U,U,U,U,U,U,U,U,U,U,U,U,U,U,U,U,U,U,U,U,U,U,U,U,U,U,U,U,U,U,U,U,U,U,U,U,U,U,U,U,U,U,U,U,U,U,U,U,U,U,U,U,U,U,U,U,U,U,U,U,U,U,U,U,U,U,U,U,U,U,U,U,U,U,U,U,U,U,U,U,U,U,U,U,U,U,U,U,U,U,U,U,U,U,U,U,U,U,U,U,U,U,U,U,U,U,U,U,U,U,U,U,U,U,U,U,U,U,U,U,U,U,U,U,U,U,U,U,U,U,U,U,U,U,U,U,U,U,U,U,U,U,U,U,U,U,U,U,U,U,U,U,U,U,U,U,U,U,U] y)(P:A<=140737488351232)(V:J<=140737488351232)(t:eb v a0 A B)(x:eb v a1 J PZ)
  (W: ∀z g F' w' y q r C D i o s E,Ext ρ z->At (E0 T) z g F' bO w'->aA v g->bn g q C (cb i)->C<=4->bn g r D (cb o)->D<=4->je g s q->je g E r->aB z #[.slice a0 A c0,.slice a1 J c1,.slice a2 L c2,.int .u8 b3,.slice a4 O c4,U,U,U,U,U,.bool false,.slice e m n,K4 (S ⟨s,0,none⟩),K4 (S ⟨E,0,none⟩),U,U,U,U,U,U,U,U,U,U,U,U,U,U,U,U,U,U,U,U,U,U,U,U,U,U,U,U,.slice a2 L c2,u43,u44,u45,u46,u47,u48,.slice a0 A c0,.agg #[J7 J8 4604930618986332160 4602678819172646912,q],.slice a1 J c1,.agg #[J7 J8 4604930618986332160 4602678819172646912,r],U,U,U,U,U,U,U,U,U,U,U,U,U,U,U,U,U,U,U,U,U,U,U,U,U,U,U,U,U,U,U,U,U,U,U,U,U,U,U,U,U,U,U,U,U,U,U,U,U,U,U,U,U,U,U,U,U,U,U,U,U,U,U,U,U,U,U,U,U,U,U,U,U,U,U,U,U,U,U,U,U,U,U,U,U,U,U,U,U,U,U,U,U,U,U,U,U,U,U,U,U,U,U,U,U,U,U,U,U,U,U,U,U,U,U,U,U,U,U,U,U,U,U,U,U,U,U,U,U,U,U,U,U,U,U,U,U,U,U,U,U,U,U,U,U,U,U,U,U,U,U,U,U,U,U,U,U,U,U,U,U,U,U,U,U,U,U,U,U,U,U,U,U,U,U,U,U,U,U,U,U,U,U,U,U,U,U,U,U,U,U,U,U,U,U,U,U,U,U,U,U,U,U,U,U,U,U,U,U,U,U,U,U,U,U,U,U,U,U,U,U,U,U,U,U,U,U,U,U,U,U,U,U,U,U,U,U,U,U,U,U,U,U,U,U,U,U,U,U,U,U,U,U,U,U,U,U,U,U,U,U,U,U] y->cO a T F' (G (ak 3 y [.code T5]) l) w'):
  cO a T F (G (ak 3 y [.code T3]) l) w:=by
 have X:T3=T3:=rfl;conv at X=>rhs;unfold T3;simp only[Try.f3]
 rw[X];clear X;refine aa.ah b λw b=> ?_;refine aa.ej (Q:=λY g=> ∃q C i s,Y= #[.slice a0 A c0,.slice a1 J c1,.slice a2 L c2,.int .u8 b3,.slice a4 O c4,U,U,U,U,U,.bool false,.slice e m n,K4 (S ⟨s,0,none⟩),U,U,U,U,U,U,U,U,U,U,U,U,U,U,U,U,U,U,U,U,U,U,U,U,U,U,U,U,U,.slice a2 L c2,u43,u44,u45,u46,u47,u48,.slice a0 A c0,.agg #[J7 J8 4604930618986332160 4602678819172646912,q],U,U,U,U,U,U,U,U,U,U,U,U,U,U,U,U,U,U,U,U,U,U,U,U,U,U,U,U,U,U,U,U,U,U,U,U,U,U,U,U,U,U,U,U,U,U,U,U,U,U,U,U,U,U,U,U,U,U,U,U,U,U,U,U,U,U,U,U,U,U,U,U,U,U,U,U,U,U,U,U,U,U,U,U,U,U,U,U,U,U,U,U,U,U,U,U,U,U,U,U,U,U,U,U,U,U,U,U,U,U,U,U,U,U,U,U,U,U,U,U,U,U,U,U,U,U,U,U,U,U,U,U,U,U,U,U,U,U,U,U,U,U,U,U,U,U,U,U,U,U,U,U,U,U,U,U,U,U,U,U,U,U,U,U,U,U,U,U,U,U,U,U,U,U,U,U,U,U,U,U,U,U,U,U,U,U,U,U,U,U,U,U,U,U,U,U,U,U,U,U,U,U,U,U,U,U,U,U,U,U,U,U,U,U,U,U,U,U,U,U,U,U,U,U,U,U,U,U,U,U,U,U,U,U,U,U,U,U,U,U,U,U,U,U,U,U,U,U,U,U,U,U,U,U,U,U,U,U,U,U,U,U,U,U,U]/\bn g q C (cb i)/\C<=4/\je g s q/\ar v g) bh ⟨_,Try.func3⟩ Zo Zn YU YU b N (λH=> ?_) ?_
 ·have Z:=au (sB a0 A c0 B (aK v H 0) P t);clear b N t x W;have a3:=aW;go_wp2_with (go_at_call 5;refine (ae Z).mono ?_;rintro b5 w6 ⟨sv,k,cs,rfl,hk,c,p⟩;obtain ⟨a5,cc,rfl,_⟩:=id c)
  exact ⟨_,k,cs,_,⟨R,R⟩,c.av (ar.alloc _ _).av,hk,jz _ _ _ _,ar.trans (ar.ba (v:=aK v H 0) p (A2 _)) (ar.alloc _ _)⟩
 ·rintro b6 x1 y1 v1 w1 F1 a6 b7 ⟨q,C,i,s,rfl,I,a7,K,d⟩ b M;refine aa.ah b λw b=> ?_;refine aa.ej (Q:=λY g=> ∃r D o E,Y= #[.slice a0 A c0,.slice a1 J c1,.slice a2 L c2,.int .u8 b3,.slice a4 O c4,U,U,U,U,U,.bool false,.slice e m n,K4 (S ⟨s,0,none⟩),K4 (S ⟨E,0,none⟩),U,U,U,U,U,U,U,U,U,U,U,U,U,U,U,U,U,U,U,U,U,U,U,U,U,U,U,U,.slice a2 L c2,u43,u44,u45,u46,u47,u48,.slice a0 A c0,.agg #[J7 J8 4604930618986332160 4602678819172646912,q],.slice a1 J c1,.agg #[J7 J8 4604930618986332160 4602678819172646912,r],U,U,U,U,U,U,U,U,U,U,U,U,U,U,U,U,U,U,U,U,U,U,U,U,U,U,U,U,U,U,U,U,U,U,U,U,U,U,U,U,U,U,U,U,U,U,U,U,U,U,U,U,U,U,U,U,U,U,U,U,U,U,U,U,U,U,U,U,U,U,U,U,U,U,U,U,U,U,U,U,U,U,U,U,U,U,U,U,U,U,U,U,U,U,U,U,U,U,U,U,U,U,U,U,U,U,U,U,U,U,U,U,U,U,U,U,U,U,U,U,U,U,U,U,U,U,U,U,U,U,U,U,U,U,U,U,U,U,U,U,U,U,U,U,U,U,U,U,U,U,U,U,U,U,U,U,U,U,U,U,U,U,U,U,U,U,U,U,U,U,U,U,U,U,U,U,U,U,U,U,U,U,U,U,U,U,U,U,U,U,U,U,U,U,U,U,U,U,U,U,U,U,U,U,U,U,U,U,U,U,U,U,U,U,U,U,U,U,U,U,U,U,U,U,U,U,U,U,U,U,U,U,U,U,U,U,U,U,U,U,U,U,U,U,U,U,U,U,U,U,U,U,U,U,U,U,U,U,U,U,U,U,U]/\bn g r D (cb o)/\D<=4/\je g E r/\ar v1 g) bh ⟨_,Try.func3⟩ Zo Zn YU YU b M (λH=> ?_) ?_
  ·have Z:=au (sB a1 J c1 PZ (aK v1 H 0) V (x.av d.av));clear b N M t x W I K d;have a3:=aW;go_wp2_with (go_at_call 5;refine (ae Z).mono ?_;rintro b5 w6 ⟨sv,k,cs,rfl,hk,c,p⟩;obtain ⟨a5,cc,rfl,_⟩:=id c)
   exact ⟨_,k,cs,_,⟨R,R⟩,c.av (ar.alloc _ _).av,hk,jz _ _ _ _,ar.trans (ar.ba (v:=aK v1 H 0) p (A2 _)) (ar.alloc _ _)⟩
  ·rintro a8 x2 y2 v2 w2 F2 a9 b8 ⟨r,D,o,E,rfl,b0,b1,b2,f⟩ b b4;exact W a8 v2 F2 w2 y2 q r C D i o s E (a6.trans a9) b (d.av.trans f.av) (I.av f.av) a7 b0 b1 (λj u hu=>f.cell (K j u hu)) b2 b4
end
noncomputable def T6:G0:=match T5 with | .seq _ c=>c | _=> .skip
section
variable {ρ:aU}{a0 a1 a2 a4 p0 p1:Option Addr}{c0 c1 c2 c4 k0 k1 q0 q1 f0 f1:Nat}{b3:Int}{u43 u44 u45 u46 u47 u48:Value}
theorem KV (b:At (E0 T) ρ v F bO w)(s:aB ρ #[.slice a0 A c0,.slice a1 J c1,.slice a2 L c2,.int .u8 b3,.slice a4 O c4,U,U,U,U,U,.bool false,.slice e m n,K4 (S ⟨f0,0,none⟩),K4 (S ⟨f1,0,none⟩),U,U,U,U,U,U,U,U,U,U,U,U,U,U,U,U,U,U,U,U,U,U,U,U,U,U,U,U,.slice a2 L c2,u43,u44,u45,u46,u47,u48,.slice a0 A c0,.agg #[J7 J8 4604930618986332160 4602678819172646912,.slice p0 k0 q0],.slice a1 J c1,.agg #[J7 J8 4604930618986332160 4602678819172646912,.slice p1 k1 q1],U,U,U,U,U,U,U,U,U,U,U,U,U,U,U,U,U,U,U,U,U,U,U,U,U,U,U,U,U,U,U,U,U,U,U,U,U,U,U,U,U,U,U,U,U,U,U,U,U,U,U,U,U,U,U,U,U,U,U,U,U,U,U,U,U,U,U,U,U,U,U,U,U,U,U,U,U,U,U,U,U,U,U,U,U,U,U,U,U,U,U,U,U,U,U,U,U,U,U,U,U,U,U,U,U,U,U,U,U,U,U,U,U,U,U,U,U,U,U,U,U,U,U,U,U,U,U,U,U,U,U,U,U,U,U,U,U,U,U,U,U,U,U,U,U,U,U,U,U,U,U,U,U,U,U,U,U,U,U,U,U,U,U,U,U,U,U,U,U,U,U,U,U,U,U,U,U,U,U,U,U,U,U,U,U,U,U,U,U,U,U,U,U,U,U,U,U,U,U,U,U,U,U,U,U,U,U,U,U,U,U,U,U,U,U,U,U,U,U,U,U,U,U,U,U,U,U,U,U,U,U,U,U,U,U,U,U,U,U,U,U,U,U,U,U,U,U,U,U,U,U,U,U,U,U,U,U,U,U,U,U,U,U] y)(d:je v f0 (.slice p0 k0 q0))(f:je v f1 (.slice p1 k1 q1))
  (t: ∀g i x z y c,Ext ρ g->At (E0 T) g i x bO z->aA v i->i.rangeAt c 0 [J7 J8 4604930618986332160 4602678819172646912,.slice p0 k0 q0,J7 J8 4604930618986332160 4602678819172646912,.slice p1 k1 q1,J7 J8 0 4607182418800017408,.slice none 0 0]->aB g #[.slice a0 A c0,.slice a1 J c1,.slice a2 L c2,.int .u8 b3,.slice a4 O c4,U,U,U,U,U,.bool false,.slice e m n,K4 (S ⟨f0,0,none⟩),K4 (S ⟨f1,0,none⟩),K3 (S ⟨c,0,none⟩) 3 3,U,U,U,U,U,U,U,U,U,U,U,U,U,U,U,U,U,U,U,U,U,U,U,U,U,U,U,.slice a2 L c2,u43,u44,u45,u46,u47,u48,.slice a0 A c0,.agg #[J7 J8 4604930618986332160 4602678819172646912,.slice p0 k0 q0],.slice a1 J c1,.agg #[J7 J8 4604930618986332160 4602678819172646912,.slice p1 k1 q1],.agg #[J7 J8 4604930618986332160 4602678819172646912,.slice p0 k0 q0],.agg #[J7 J8 4604930618986332160 4602678819172646912,.slice p1 k1 q1],.agg #[J7 J8 0 4607182418800017408,.slice none 0 0],K3 (S ⟨c,0,none⟩) 3 3,U,U,U,U,U,U,U,U,U,U,U,U,U,U,U,U,U,U,U,U,U,U,U,U,U,U,U,U,U,U,U,U,U,U,U,U,U,U,U,U,U,U,U,U,U,U,U,U,U,U,U,U,U,U,U,U,U,U,U,U,U,U,U,U,U,U,U,U,U,U,U,U,U,U,U,U,U,U,U,U,U,U,U,U,U,U,U,U,U,U,U,U,U,U,U,U,U,U,U,U,U,U,U,U,U,U,U,U,U,U,U,U,U,U,U,U,U,U,U,U,U,U,U,U,U,U,U,U,U,U,U,U,U,U,U,U,U,U,U,U,U,U,U,U,U,U,U,U,U,U,U,U,U,U,U,U,U,U,U,U,U,U,U,U,U,U,U,U,U,U,U,U,U,U,U,U,U,U,U,U,U,U,U,U,U,U,U,U,U,U,U,U,U,U,U,U,U,U,U,U,U,U,U,U,U,U,U,U,U,U,U,U,U,U,U,U,U,U,U,U,U,U,U,U,U,U,U,U,U,U,U,U,U,U,U,U,U,U,U,U,U,U,U,U,U,U,U,U,U,U,U,U,U,U,U,U,U,U,U] y->cO a T x (G (ak 3 y [.code T6]) l) z):
  cO a T F (G (ak 3 y [.code T5]) l) w:=by
 have o:T5=T5:=rfl;conv at o=>rhs;unfold T5 T3;simp only[Try.f3]
 rw[o];clear o;refine aa.ah b λw b=> ?_;refine aa.ej (Q:=λB i=> ∃c,B= #[.slice a0 A c0,.slice a1 J c1,.slice a2 L c2,.int .u8 b3,.slice a4 O c4,U,U,U,U,U,.bool false,.slice e m n,K4 (S ⟨f0,0,none⟩),K4 (S ⟨f1,0,none⟩),K3 (S ⟨c,0,none⟩) 3 3,U,U,U,U,U,U,U,U,U,U,U,U,U,U,U,U,U,U,U,U,U,U,U,U,U,U,U,.slice a2 L c2,u43,u44,u45,u46,u47,u48,.slice a0 A c0,.agg #[J7 J8 4604930618986332160 4602678819172646912,.slice p0 k0 q0],.slice a1 J c1,.agg #[J7 J8 4604930618986332160 4602678819172646912,.slice p1 k1 q1],.agg #[J7 J8 4604930618986332160 4602678819172646912,.slice p0 k0 q0],.agg #[J7 J8 4604930618986332160 4602678819172646912,.slice p1 k1 q1],.agg #[J7 J8 0 4607182418800017408,.slice none 0 0],K3 (S ⟨c,0,none⟩) 3 3,U,U,U,U,U,U,U,U,U,U,U,U,U,U,U,U,U,U,U,U,U,U,U,U,U,U,U,U,U,U,U,U,U,U,U,U,U,U,U,U,U,U,U,U,U,U,U,U,U,U,U,U,U,U,U,U,U,U,U,U,U,U,U,U,U,U,U,U,U,U,U,U,U,U,U,U,U,U,U,U,U,U,U,U,U,U,U,U,U,U,U,U,U,U,U,U,U,U,U,U,U,U,U,U,U,U,U,U,U,U,U,U,U,U,U,U,U,U,U,U,U,U,U,U,U,U,U,U,U,U,U,U,U,U,U,U,U,U,U,U,U,U,U,U,U,U,U,U,U,U,U,U,U,U,U,U,U,U,U,U,U,U,U,U,U,U,U,U,U,U,U,U,U,U,U,U,U,U,U,U,U,U,U,U,U,U,U,U,U,U,U,U,U,U,U,U,U,U,U,U,U,U,U,U,U,U,U,U,U,U,U,U,U,U,U,U,U,U,U,U,U,U,U,U,U,U,U,U,U,U,U,U,U,U,U,U,U,U,U,U,U,U,U,U,U,U,U,U,U,U,U,U,U,U,U,U,U,U,U]/\i.rangeAt c 0 [J7 J8 4604930618986332160 4602678819172646912,.slice p0 k0 q0,J7 J8 4604930618986332160 4602678819172646912,.slice p1 k1 q1,J7 J8 0 4607182418800017408,.slice none 0 0]/\ar v i) bh ⟨_,Try.func3⟩ Zo Zn YU YU b s (λk=> ?_) ?_
 ·have N:(aK v k 0).cell? ⟨f0,0,none⟩=S (J7 J8 4604930618986332160 4602678819172646912):=d 0 _ R;have P:(aK v k 0).cell? ⟨f0,1,none⟩=S (.slice p0 k0 q0):=d 1 _ R;have V:(aK v k 0).cell? ⟨f1,0,none⟩=S (J7 J8 4604930618986332160 4602678819172646912):=f 0 _ R;have W:(aK v k 0).cell? ⟨f1,1,none⟩=S (.slice p1 k1 q1):=f 1 _ R;clear b s d f t;go_wp2
  refine ⟨λj u X=> ?_,ar.alloc (aK v k 0) _⟩;simp_all
 ·rintro p Y C D E H q I ⟨c,rfl,K,M⟩ b r;exact t p D H E C c q b M.av K r
end
noncomputable def T7:G0:=match T6 with | .seq _ c=>c | _=> .skip
section
variable {ρ:aU}{a0 a1 a2 a4 p0 p1:Option Addr}{c0 c1 c2 c4 k0 k1 q0 q1 f0 f1 fb:Nat}{b3:Int}{u43 u44 u45 u46 u47 u48:Value}
theorem KX (b:At (E0 T) ρ v F bO w)(p:aB ρ #[.slice a0 A c0,.slice a1 J c1,.slice a2 L c2,.int .u8 b3,.slice a4 O c4,U,U,U,U,U,.bool false,.slice e m n,K4 (S ⟨f0,0,none⟩),K4 (S ⟨f1,0,none⟩),K3 (S ⟨fb,0,none⟩) 3 3,U,U,U,U,U,U,U,U,U,U,U,U,U,U,U,U,U,U,U,U,U,U,U,U,U,U,U,.slice a2 L c2,u43,u44,u45,u46,u47,u48,.slice a0 A c0,.agg #[J7 J8 4604930618986332160 4602678819172646912,.slice p0 k0 q0],.slice a1 J c1,.agg #[J7 J8 4604930618986332160 4602678819172646912,.slice p1 k1 q1],.agg #[J7 J8 4604930618986332160 4602678819172646912,.slice p0 k0 q0],.agg #[J7 J8 4604930618986332160 4602678819172646912,.slice p1 k1 q1],.agg #[J7 J8 0 4607182418800017408,.slice none 0 0],K3 (S ⟨fb,0,none⟩) 3 3,U,U,U,U,U,U,U,U,U,U,U,U,U,U,U,U,U,U,U,U,U,U,U,U,U,U,U,U,U,U,U,U,U,U,U,U,U,U,U,U,U,U,U,U,U,U,U,U,U,U,U,U,U,U,U,U,U,U,U,U,U,U,U,U,U,U,U,U,U,U,U,U,U,U,U,U,U,U,U,U,U,U,U,U,U,U,U,U,U,U,U,U,U,U,U,U,U,U,U,U,U,U,U,U,U,U,U,U,U,U,U,U,U,U,U,U,U,U,U,U,U,U,U,U,U,U,U,U,U,U,U,U,U,U,U,U,U,U,U,U,U,U,U,U,U,U,U,U,U,U,U,U,U,U,U,U,U,U,U,U,U,U,U,U,U,U,U,U,U,U,U,U,U,U,U,U,U,U,U,U,U,U,U,U,U,U,U,U,U,U,U,U,U,U,U,U,U,U,U,U,U,U,U,U,U,U,U,U,U,U,U,U,U,U,U,U,U,U,U,U,U,U,U,U,U,U,U,U,U,U,U,U,U,U,U,U,U,U,U,U,U,U,U,U,U,U,U,U,U,U,U,U,U,U,U,U,U,U,U] y)
  (q: ∀c f r s y d,Ext ρ c->At (E0 T) c f r bO s->aA v f->f.rangeAt d 0 [.bool true,.bool false,.bool true]->aB c #[.slice a0 A c0,.slice a1 J c1,.slice a2 L c2,.int .u8 b3,.slice a4 O c4,U,U,U,U,U,.bool false,.slice e m n,K4 (S ⟨f0,0,none⟩),K4 (S ⟨f1,0,none⟩),K3 (S ⟨fb,0,none⟩) 3 3,K4 (S ⟨d,0,none⟩),U,U,U,U,U,U,U,U,U,U,U,U,U,U,U,U,U,U,U,U,U,U,U,U,U,U,.slice a2 L c2,u43,u44,u45,u46,u47,u48,.slice a0 A c0,.agg #[J7 J8 4604930618986332160 4602678819172646912,.slice p0 k0 q0],.slice a1 J c1,.agg #[J7 J8 4604930618986332160 4602678819172646912,.slice p1 k1 q1],.agg #[J7 J8 4604930618986332160 4602678819172646912,.slice p0 k0 q0],.agg #[J7 J8 4604930618986332160 4602678819172646912,.slice p1 k1 q1],.agg #[J7 J8 0 4607182418800017408,.slice none 0 0],K3 (S ⟨fb,0,none⟩) 3 3,.agg #[.bool true,.bool false,.bool true],U,U,U,U,U,U,U,U,U,U,U,U,U,U,U,U,U,U,U,U,U,U,U,U,U,U,U,U,U,U,U,U,U,U,U,U,U,U,U,U,U,U,U,U,U,U,U,U,U,U,U,U,U,U,U,U,U,U,U,U,U,U,U,U,U,U,U,U,U,U,U,U,U,U,U,U,U,U,U,U,U,U,U,U,U,U,U,U,U,U,U,U,U,U,U,U,U,U,U,U,U,U,U,U,U,U,U,U,U,U,U,U,U,U,U,U,U,U,U,U,U,U,U,U,U,U,U,U,U,U,U,U,U,U,U,U,U,U,U,U,U,U,U,U,U,U,U,U,U,U,U,U,U,U,U,U,U,U,U,U,U,U,U,U,U,U,U,U,U,U,U,U,U,U,U,U,U,U,U,U,U,U,U,U,U,U,U,U,U,U,U,U,U,U,U,U,U,U,U,U,U,U,U,U,U,U,U,U,U,U,U,U,U,U,U,U,U,U,U,U,U,U,U,U,U,U,U,U,U,U,U,U,U,U,U,U,U,U,U,U,U,U,U,U,U,U,U,U,U,U,U,U,U,U,U,U,U,U] y->cO a T r (G (ak 3 y [.code T7]) l) s):
  cO a T F (G (ak 3 y [.code T6]) l) w:=by
 have g:T6=T6:=rfl;conv at g=>rhs;unfold T6 T5 T3;simp only[Try.f3]
 rw[g];clear g;refine aa.ah b λw b=> ?_;refine aa.ej (Q:=λt f=> ∃d,t= #[.slice a0 A c0,.slice a1 J c1,.slice a2 L c2,.int .u8 b3,.slice a4 O c4,U,U,U,U,U,.bool false,.slice e m n,K4 (S ⟨f0,0,none⟩),K4 (S ⟨f1,0,none⟩),K3 (S ⟨fb,0,none⟩) 3 3,K4 (S ⟨d,0,none⟩),U,U,U,U,U,U,U,U,U,U,U,U,U,U,U,U,U,U,U,U,U,U,U,U,U,U,.slice a2 L c2,u43,u44,u45,u46,u47,u48,.slice a0 A c0,.agg #[J7 J8 4604930618986332160 4602678819172646912,.slice p0 k0 q0],.slice a1 J c1,.agg #[J7 J8 4604930618986332160 4602678819172646912,.slice p1 k1 q1],.agg #[J7 J8 4604930618986332160 4602678819172646912,.slice p0 k0 q0],.agg #[J7 J8 4604930618986332160 4602678819172646912,.slice p1 k1 q1],.agg #[J7 J8 0 4607182418800017408,.slice none 0 0],K3 (S ⟨fb,0,none⟩) 3 3,.agg #[.bool true,.bool false,.bool true],U,U,U,U,U,U,U,U,U,U,U,U,U,U,U,U,U,U,U,U,U,U,U,U,U,U,U,U,U,U,U,U,U,U,U,U,U,U,U,U,U,U,U,U,U,U,U,U,U,U,U,U,U,U,U,U,U,U,U,U,U,U,U,U,U,U,U,U,U,U,U,U,U,U,U,U,U,U,U,U,U,U,U,U,U,U,U,U,U,U,U,U,U,U,U,U,U,U,U,U,U,U,U,U,U,U,U,U,U,U,U,U,U,U,U,U,U,U,U,U,U,U,U,U,U,U,U,U,U,U,U,U,U,U,U,U,U,U,U,U,U,U,U,U,U,U,U,U,U,U,U,U,U,U,U,U,U,U,U,U,U,U,U,U,U,U,U,U,U,U,U,U,U,U,U,U,U,U,U,U,U,U,U,U,U,U,U,U,U,U,U,U,U,U,U,U,U,U,U,U,U,U,U,U,U,U,U,U,U,U,U,U,U,U,U,U,U,U,U,U,U,U,U,U,U,U,U,U,U,U,U,U,U,U,U,U,U,U,U,U,U,U,U,U,U,U,U,U,U,U,U,U,U,U,U,U,U,U]/\f.rangeAt d 0 [.bool true,.bool false,.bool true]/\ar v f) bh ⟨_,Try.func3⟩ Zo Zn YU YU b p (λx=> ?_) ?_
 ·clear b p q;go_wp2
  refine ⟨λj u K=> ?_,ar.alloc (aK v x 0) _⟩;simp_all
 ·rintro i M z B C D k E ⟨d,rfl,H,I⟩ b o;exact q i B D C z d k b I.av H o
end
section
variable {J:Nat}
def IN (p k:Nat):List Ak:=if 1<=p then [.recv (p - 1) k]else []
def CG (J p k:Nat):List Ak:=if p<=J then [.send p k]else []
def IF (p:Nat):List Ak:=if 1<=p then [.over (p - 1)]else []
def CC (J p:Nat):List Ak:=if p<=J then [.close p]else []
def oC (J p:Nat):Nat->Nat->List Ak
 | 0,_=>IF p ++ CC J p
 | m + 1,k=>IN p k ++ (CG J p k ++ oC J p m (k + 1))
def gJ (J m k:Nat):iR:=λp=>if p<=J + 1 then oC J p m k else []
def lp (J m k t:Nat):iR:=λp=>if p<=J + 1 then (if p<t then oC J p m (k + 1)else if p=t then CG J p k ++ oC J p m (k + 1)else oC J p (m + 1) k)else []
theorem By (m k:Nat):lp J m k 0=gJ J (m + 1) k:=by
 funext p;unfold lp gJ;by_cases a:p<=J + 1
 ·rw[if_pos a,if_pos a,if_neg YP];by_cases b:p=0
  ·subst b;rw[if_pos R];simp[oC,IN]
  ·rw[if_neg b]
 grind
theorem DY (m k:Nat):lp J m k (J + 1)=gJ J m (k + 1):=by
 funext p;unfold lp gJ;by_cases a:p<=J + 1
 ·rw[if_pos a,if_pos a];by_cases b:p<J + 1
  ·rw[if_pos b]
  ·have:p=J + 1:=by omega
   subst this;rw[if_neg YP,if_pos R];simp[CG]
 grind
theorem DZ(c:A<=J)(C:Cl):AS (lp J m n A,C) (lp J m n (A + 1),C):=by
 have d:lp J m n A A= .send A n::oC J A m (n + 1):=by unfold lp;rw[if_pos YP,if_neg YP,if_pos R];simp[CG,c]
 have e:lp J m n A (A + 1)= .recv A n::(CG J (A + 1) n ++ oC J (A + 1) m (n + 1)):=by unfold lp;rw[if_pos YP,if_neg YP,if_neg YP];simp[oC,IN]
 have f:lp J m n (A + 1)=aO (aO (lp J m n A) A (oC J A m (n + 1))) (A + 1) (CG J (A + 1) n ++ oC J (A + 1) m (n + 1)):=by
  funext p;by_cases a:p=A + 1
  ·subst a;rw[cn];unfold lp;grind
  ·rw[aD _ _ a];by_cases b:p=A
   ·subst b;rw[cn];unfold lp;grind
   ·rw[aD _ _ b];unfold lp;grind
 rw[f];exact .comm YP d e
theorem vj {m k:Nat}(C:Cl)(h:eG (gJ J m (k + 1),C)): ∀d t,t + d=J + 1->eG (lp J m k t,C)
 | 0,t,e=>by have:t=J + 1:=YP;subst this;rw[DY];exact h
 | d + 1,t,e=> .step (DZ YP C) (vj C h d (t + 1) YP)
def mI (J t:Nat):iR:=λp=>if p<=J + 1 then (if p<t then []else if p=t then CC J p else IF p ++ CC J p)else []
theorem AW (k:Nat):mI J 0=gJ J 0 k:=by
 funext p;unfold mI gJ;by_cases a:p<=J + 1
 ·rw[if_pos a,if_pos a,if_neg YP];by_cases b:p=0
  ·subst b;rw[if_pos R];simp[oC,IF]
  ·rw[if_neg b];rfl
 grind
theorem uR: ∀d t,t + d=J + 1-> ∀C:Cl,eG (mI J t,C)
 | 0,t,e,C=>by
  have:t=J + 1:=YP;subst this;refine .done λp=> ?_;show mI J (J + 1) p= [];unfold mI;by_cases f:p<=J + 1
  ·rw[if_pos f];by_cases a:p<J + 1
   ·rw[if_pos a]
   ·rw[if_neg a,if_pos YP];simp[CC];omega
  grind
 | d + 1,t,e,C=>by
  have g:mI J t t= [.close t]:=by unfold mI;rw[if_pos YP,if_neg YP,if_pos R];simp[CC];omega
  have h:aO (mI J t) t [] (t + 1)= .over t::CC J (t + 1):=by rw[aD _ _ YP];unfold mI;rw[if_pos YP,if_neg YP,if_neg YP];simp[IF]
  have i:mI J (t + 1)=aO (aO (mI J t) t []) (t + 1) (CC J (t + 1)):=by
   funext p;by_cases b:p=t + 1
   ·subst b;rw[cn];unfold mI;grind
   ·rw[aD _ _ b];by_cases c:p=t
    ·subst c;rw[cn];unfold mI;simp
    ·rw[aD _ _ c];unfold mI;grind
  refine .step (.close g) (.step (.over h (.inr R)) ?_);rw[<-i];exact uR d (t + 1) YP _
theorem rT: ∀m k,∀C:Cl,eG (gJ J m k,C)
 | 0,k,C=>by rw[<-AW k];exact uR (J + 1) 0 YP C
 | m + 1,k,C=>by rw[<-By];exact vj C (rT m (k + 1) C) (J + 1) 0 YP
end
section
variable {φ:Nat->Nat}
structure Jp (φ:Nat->Nat)(S S':iR):Prop where
 at_: ∀p,S' (φ p)=S p
 out: ∀i,(∀p,i≠φ p)->S' i= []
theorem Jp.upd (a: ∀p q,B p=B q->p=q){c d:iR}(h:Jp B c d)(p:Nat)(s:List Ak):Jp B (aO c p s) (aO d (B p) s) where
 at_ q:=by
  by_cases b:q=p
  ·subst b;rw[cn,cn]
  ·rw[aD _ _ b,aD _ _ λe=>b (a q p e)];exact h.at_ q
 out i hi:=by rw[aD _ _ (hi p)];exact h.out i hi
theorem eG.label (a: ∀p q,B p=B q->p=q){x:iR×Cl}(h:eG x): ∀f,Jp B x.1 f->eG (f,x.2):=by
 induction h with
 | @done x h=>
  intro f b;refine .done λi=> ?_;by_cases m: ∃p,i=B p
  ·obtain ⟨p,rfl⟩:=m;exact (b.at_ p).trans (h p)
  ·exact b.out i λp e=>m ⟨p,e⟩
 | @step x y k _ g=>
  intro f b;cases k with
  | @comm n C i j c k s t l d o=>exact .step (.comm (λe=>l (a i j e)) ((b.at_ i).trans d) ((b.at_ j).trans o)) (g _ ((b.upd a i s).upd a j t))
  | @close n C i c s d=>exact .step (.close ((b.at_ i).trans d)) (g _ (b.upd a i s))
  | @over n C j c t d r=>exact .step (.over ((b.at_ j).trans d) r) (g _ (b.upd a j t))
theorem One.label {f g:iR}(h:One f)(k:Jp B f g):One g:=by
 have s: ∀ {i c},sends (g i) c-> ∃p,i=B p/\sends (f p) c:=λ{i c} b=>by
  by_cases d: ∃p,i=B p
  ·obtain ⟨p,rfl⟩:=d;exact ⟨p,R,by rw[<-k.at_ p];exact b⟩
  ·rw[k.out i λp e=>d ⟨p,e⟩]at b;obtain ⟨a,l,_⟩:=b;cases l
 have t: ∀ {i c},recvs (g i) c-> ∃p,i=B p/\recvs (f p) c:=λ{i c} b=>by
  by_cases d: ∃p,i=B p
  ·obtain ⟨p,rfl⟩:=d;exact ⟨p,R,by rw[<-k.at_ p];exact b⟩
  ·rw[k.out i λp e=>d ⟨p,e⟩]at b;obtain ⟨a,l,_⟩:=b;cases l
 refine ⟨λi j c m n=> ?_,λi j c m n=> ?_⟩
 ·obtain ⟨p,rfl,o⟩:=s m;obtain ⟨q,rfl,r⟩:=s n;rw[h.snd p q c o r]
 ·obtain ⟨p,rfl,o⟩:=t m;obtain ⟨q,rfl,r⟩:=t n;rw[h.rcv p q c o r]
theorem iA.label {d f:iR}(h:iA d)(g:Jp B d f):iA f:=by
 intro i a b c e;by_cases j: ∃p,i=B p
 ·obtain ⟨p,rfl⟩:=j;rw[g.at_ p]at e;exact h p a b c e
 ·rw[g.out i λp e=>j ⟨p,e⟩]at e;simp at e
theorem tJ {J p:Nat}: ∀ {m k:Nat}{a:Ak},a∈oC J p m k->(1<=p/\((∃q,a= .recv (p - 1) q)\/a= .over (p - 1)))\/(p<=J/\((∃q,a= .send p q)\/a= .close p))
 | 0,k,a,h=>by simp only[oC,IF,CC,E5]at h;grind
 | m + 1,k,a,h=>by
  simp only[oC,IN,CG,E5]at h;rcases h with h | h | h
  ·grind
  ·grind
  ·exact tJ h
theorem EJ (J m k:Nat):One (gJ J m k):=by
 have g: ∀ {p c},sends (gJ J m k p) c->p=c:=λ{p c} ⟨a,b,d⟩=>by
  unfold gJ at b;split at b
  ·rcases tJ b with ⟨_,⟨q,rfl⟩ | rfl⟩ | ⟨_,⟨q,rfl⟩ | rfl⟩
   ·rcases d with ⟨_,h⟩ | h<;>cases h
   ·rcases d with ⟨_,h⟩ | h<;>cases h
   ·rcases d with ⟨_,h⟩ | h<;>cases h;rfl
   grind
  ·cases b
 have l: ∀ {p c},recvs (gJ J m k p) c->p=c + 1:=λ{p c} ⟨a,b,d⟩=>by
  unfold gJ at b;split at b
  ·rcases tJ b with ⟨n,⟨q,rfl⟩ | rfl⟩ | ⟨_,⟨q,rfl⟩ | rfl⟩
   ·rcases d with ⟨_,h⟩ | h<;>cases h;omega
   ·rcases d with ⟨_,h⟩ | h<;>cases h;omega
   ·rcases d with ⟨_,h⟩ | h<;>cases h
   grind
  ·cases b
 exact ⟨λi j c e f=>(g e).trans (g f).symm,λi j c e f=>(l e).trans (l f).symm⟩
end
theorem wG {J p:Nat}: ∀m k:Nat,∃X,oC J p m k=X ++ CC J p/\ ∀y∈X,∀c,y≠ .close c
 | 0,k=>⟨IF p,R,λy a c e=>by unfold IF at a;grind⟩
 | m + 1,k=>by
  obtain ⟨X,b,d⟩:=wG (J:=J) (p:=p) m (k + 1);refine ⟨IN p k ++ (CG J p k ++ X),by simp[oC,b],λy a c e=> ?_⟩;simp only[E5]at a;rcases a with a | a | a
  ·unfold IN at a;split at a
   ·simp at a;rw[a]at e;cases e
   ·cases a
  ·unfold CG at a;split at a
   ·simp at a;rw[a]at e;cases e
   ·cases a
  grind
theorem pC {a b:List Ak}(f: ∀y∈I,∀n,y≠ .close n)(h:I ++ [.close m]=a ++ .close n::b):b= []:=by
 rcases List.append_eq_append_iff.1 h with ⟨d,e,c⟩ | ⟨d,e,c⟩
 ·cases d with
  | nil=>grind
  | cons y d=>simp at c
 ·cases d with
  | nil=>grind
  | cons y d=>grind
theorem BS (J m k:Nat):iA (gJ J m k):=by
 intro p a b c h e;unfold gJ at h;split at h
 ·obtain ⟨X,f,d⟩:=wG (J:=J) (p:=p) m k;rw[f]at h;unfold CC at h;split at h
  ·have:=pC d h;subst this;obtain ⟨y,g,_⟩:=e;cases g
  ·rw[List.append_nil]at h;exact d (.close c) (by rw[h];simp) c R
 simp_all
section
variable {J:Nat}
def lK (i:Nat):Nat->List Ak
 | 0=> []
 | n + 1=> .close (2 * i)::lK (i + 1) n
def sL (J:Nat):List Nat->Nat->List Ak
 | [],_=>lK 0 J
 | f::a,q=> .send (2 * f) q::sL J a (q + 1)
def rU (i:Nat):List Nat->Nat->List Ak
 | [],_=> [.over (2 * i),.close (2 * i + 1)]
 | f::a,q=>if f=i then .recv (2 * i) q:: .send (2 * i + 1) q::rU i a (q + 1)else rU i a (q + 1)
def vC:List Nat->Nat->List Ak
 | [],_=> []
 | f::a,q=> .recv (2 * f + 1) q::vC a (q + 1)
def ep (J:Nat)(a:List Nat)(q:Nat):iR:=λp=>if p=0 then vC a q else if p<=J then rU (p - 1) a q else if p=J + 1 then sL J a q else []
theorem BV(l:n<J)(C:Cl)(h:eG (ep J s (m + 1),C)):eG (ep J (n::s) m,C):=by
 have e:ep J (n::s) m (J + 1)= .send (2 * n) m::sL J s (m + 1):=by unfold ep;rw[if_neg YP,if_neg YP,if_pos R];rfl
 have f:ep J (n::s) m (n + 1)= .recv (2 * n) m::(.send (2 * n + 1) m::rU n s (m + 1)):=by unfold ep;rw[if_neg YP,if_pos YP];simp[rU]
 have g:aO (aO (ep J (n::s) m) (J + 1) (sL J s (m + 1))) (n + 1) (.send (2 * n + 1) m::rU n s (m + 1)) (n + 1)= .send (2 * n + 1) m::rU n s (m + 1):=cn ..;have k:aO (aO (ep J (n::s) m) (J + 1) (sL J s (m + 1))) (n + 1) (.send (2 * n + 1) m::rU n s (m + 1)) 0= .recv (2 * n + 1) m::vC s (m + 1):=by rw[aD _ _ YP,aD _ _ YP];rfl
 refine .step (.comm (i:=J + 1) (j:=n + 1) YP e f) (.step (.comm (i:=n + 1) (j:=0) YP g k) ?_);have o:aO (aO (aO (aO (ep J (n::s) m) (J + 1) (sL J s (m + 1))) (n + 1) (.send (2 * n + 1) m::rU n s (m + 1))) (n + 1) (rU n s (m + 1))) 0 (vC s (m + 1))=ep J s (m + 1):=by
  funext p;by_cases a:p=0
  ·subst a;rw[cn];rfl
  ·rw[aD _ _ a];by_cases d:p=n + 1
   ·subst d;rw[cn];unfold ep;rw[if_neg YP,if_pos YP];simp
   ·rw[aD _ _ d,aD _ _ d];by_cases b:p=J + 1
    ·subst b;rw[cn];unfold ep;rw[if_neg YP,if_neg YP,if_pos R]
    ·rw[aD _ _ b];unfold ep;rw[if_neg a,if_neg a];by_cases c:p<=J
     ·rw[if_pos c,if_pos c];simp only[rU];rw[if_neg YP]
     ·rw[if_neg c,if_neg c,if_neg b,if_neg b]
 grind
def lP (J t:Nat):iR:=λp=>if p=0 then []else if p<=J then (if p<=t then []else [.over (2 * (p - 1)),.close (2 * (p - 1) + 1)])else if p=J + 1 then lK t (J - t)else []
theorem xz (q:Nat):lP J 0=ep J [] q:=by
 funext p;unfold lP ep;by_cases a:p=0
 ·rw[if_pos a,if_pos a];rfl
 ·rw[if_neg a,if_neg a];by_cases b:p<=J
  ·rw[if_pos b,if_pos b,if_neg YP];rfl
  ·rw[if_neg b,if_neg b];rfl
theorem rE: ∀d t,t + d=J-> ∀C:Cl,eG (lP J t,C)
 | 0,t,e,C=>by
  have:t=J:=YP;subst this;refine .done λp=> ?_;show lP t t p= [];unfold lP;by_cases c:p=0
  ·grind
  ·rw[if_neg c];by_cases f:p<=t
   ·grind
   ·rw[if_neg f];split
    ·rw[Nat.sub_self];rfl
    ·rfl
 | d + 1,t,e,C=>by
  have g:lP J t (J + 1)= .close (2 * t)::lK (t + 1) (J - (t + 1)):=by unfold lP;rw[if_neg YP,if_neg YP,if_pos R,show J - t=(J - (t + 1)) + 1 by omega];rfl
  have h:aO (lP J t) (J + 1) (lK (t + 1) (J - (t + 1))) (t + 1)= .over (2 * t):: [.close (2 * t + 1)]:=by rw[aD _ _ YP];unfold lP;rw[if_neg YP,if_pos YP,if_neg YP];simp
  have i:aO (aO (lP J t) (J + 1) (lK (t + 1) (J - (t + 1)))) (t + 1) [.close (2 * t + 1)] (t + 1)= .close (2 * t + 1):: []:=cn ..;refine .step (.close g) (.step (.over h (.inr R)) (.step (.close i) ?_));have j:aO (aO (aO (lP J t) (J + 1) (lK (t + 1) (J - (t + 1)))) (t + 1) [.close (2 * t + 1)]) (t + 1) []=lP J (t + 1):=by
   funext p;by_cases a:p=t + 1
   ·subst a;rw[cn];unfold lP;grind
   ·rw[aD _ _ a,aD _ _ a];by_cases b:p=J + 1
    ·subst b;rw[cn];unfold lP;grind
    ·rw[aD _ _ b];unfold lP;grind
  rw[j];exact rE d (t + 1) YP _
theorem rV: ∀ (a:List Nat)(q:Nat),(∀f∈a,f<J)-> ∀C:Cl,eG (ep J a q,C)
 | [],q,_,C=>by rw[<-xz q];exact rE J 0 YP C
 | f::a,q,h,C=>BV (h f YR) C (rV a (q + 1) (λg b=>h g (by simp[b])) C)
end
theorem oM: ∀ {b:List Nat}{q:Nat}{a:Ak},a∈vC b q-> ∃f k,a= .recv (2 * f + 1) k
 | [],_,_,h=>by cases h
 | f::b,q,a,h=>by
  simp only[vC,List.mem_cons]at h;rcases h with rfl | h
  ·grind
  ·exact oM h
theorem oQ {i:Nat}: ∀ {b:List Nat}{q:Nat}{a:Ak},a∈rU i b q->(∃k,a= .recv (2 * i) k)\/(∃k,a= .send (2 * i + 1) k)\/a= .over (2 * i)\/a= .close (2 * i + 1)
 | [],_,a,h=>by simp[rU]at h;grind
 | f::b,q,a,h=>by
  simp only[rU]at h;split at h
  ·simp only[List.mem_cons]at h;rcases h with h | h | h
   ·grind
   ·grind
   ·exact oQ h
  ·exact oQ h
theorem pD: ∀ {n i:Nat}{a:Ak},a∈lK i n-> ∃j,i<=j/\a= .close (2 * j)
 | 0,_,_,h=>by cases h
 | n + 1,i,a,h=>by
  simp only[lK,List.mem_cons]at h;rcases h with h | h
  ·grind
  ·obtain ⟨j,b,e⟩:=pD h;grind
theorem sM: ∀ {b:List Nat}{q:Nat}{a:Ak},a∈sL J b q->(∃f k,a= .send (2 * f) k)\/ ∃j,a= .close (2 * j)
 | [],_,a,h=>by obtain ⟨j,_,e⟩:=pD h;grind
 | f::b,q,a,h=>by
  simp only[sL,List.mem_cons]at h;rcases h with h | h
  ·grind
  ·exact sM h
theorem EM (l:List Nat)(q:Nat):One (ep J l q):=by
 have m: ∀ {p c},sends (ep J l q p) c->(c % 2=0/\p=J + 1)\/(c % 2=1/\p=c / 2 + 1):=λ{p c} ⟨a,b,d⟩=>by
  unfold ep at b;split at b
  ·obtain ⟨f,k,rfl⟩:=oM b;rcases d with ⟨_,h⟩ | h<;>cases h
  ·split at b
   ·rcases oQ b with ⟨k,rfl⟩ | ⟨k,rfl⟩ | rfl | rfl
    ·rcases d with ⟨_,h⟩ | h<;>cases h
    ·rcases d with ⟨_,h⟩ | h<;>cases h;right;omega
    ·rcases d with ⟨_,h⟩ | h<;>cases h
    ·rcases d with ⟨_,h⟩ | h<;>cases h;right;omega
   ·split at b
    ·rename_i n;rcases sM b with ⟨f,k,rfl⟩ | ⟨j,rfl⟩
     ·rcases d with ⟨_,h⟩ | h<;>cases h;left;omega
     ·rcases d with ⟨_,h⟩ | h<;>cases h;left;omega
    ·cases b
 have o: ∀ {p c},recvs (ep J l q p) c->(c % 2=1/\p=0)\/(c % 2=0/\p=c / 2 + 1):=λ{p c} ⟨a,b,d⟩=>by
  unfold ep at b;split at b
  ·obtain ⟨f,k,rfl⟩:=oM b;rcases d with ⟨_,h⟩ | h<;>cases h;left;omega
  ·split at b
   ·rcases oQ b with ⟨k,rfl⟩ | ⟨k,rfl⟩ | rfl | rfl
    ·rcases d with ⟨_,h⟩ | h<;>cases h;right;omega
    ·rcases d with ⟨_,h⟩ | h<;>cases h
    ·rcases d with ⟨_,h⟩ | h<;>cases h;right;omega
    ·rcases d with ⟨_,h⟩ | h<;>cases h
   ·split at b
    ·rcases sM b with ⟨f,k,rfl⟩ | ⟨j,rfl⟩
     ·rcases d with ⟨_,h⟩ | h<;>cases h
     ·rcases d with ⟨_,h⟩ | h<;>cases h
    ·cases b
 refine ⟨λi j c e g=> ?_,λi j c e g=> ?_⟩
 ·rcases m e with e | e<;>rcases m g with g | g<;>omega
 grind
theorem vR {i:Nat}: ∀ (a:List Nat)(q:Nat),∃X,rU i a q=X ++ [.close (2 * i + 1)]/\ ∀y∈X,∀c,y≠ .close c
 | [],_=>⟨[.over (2 * i)],R,λy b c e=>YS⟩
 | f::a,q=>by obtain ⟨X,d,g⟩:=vR (i:=i) a (q + 1);simp only[rU];grind
theorem rD: ∀ {n i:Nat}{a b:List Ak}{c:Nat},lK i n=a ++ .close c::b-> ¬sends b c
 | 0,i,a,b,c,h=>by simp[lK]at h
 | n + 1,i,a,b,c,h=>by
  simp only[lK]at h;cases a with
  | nil=>simp at h;obtain ⟨f,e⟩:=h;rintro ⟨y,d,g⟩;rw[<-e]at d;obtain ⟨j,k,rfl⟩:=pD d;grind
  | cons z a=>simp at h;exact rD h.2
theorem uQ: ∀ {d:List Nat}{q:Nat}{a b:List Ak}{c:Nat},sL J d q=a ++ .close c::b-> ¬sends b c
 | [],_,a,b,c,h=>rD h
 | f::d,q,a,b,c,h=>by
  simp only[sL]at h;cases a with
  | nil=>simp at h
  | cons z a=>simp at h;exact uQ h.2
theorem BU (d:List Nat)(q:Nat):iA (ep J d q):=by
 intro p a b c h g;unfold ep at h;split at h
 ·have:(Ak.close c)∈vC d q:=by rw[h];simp
  obtain ⟨f,k,e⟩:=oM this;cases e
 ·split at h
  ·obtain ⟨X,j,l⟩:=vR (i:=p - 1) d q;rw[j]at h;have:=pC l h;subst this;obtain ⟨y,m,_⟩:=g;cases m
  ·split at h
   ·exact uQ h g
   simp_all
section
variable {P:Program}{gs:Array Goroutine}{t:Trace}{g:Goroutine}
theorem gW.all (h:gW P T F gs w t g m):gW P T (.all w.heap.size T) gs w t g m where
 main:=h.main
 old:=h.old
 rI:=h.rI
 hear:=h.hear
 led:=by
  have i:=h.led.knows h.over;have j: ∀l,Rl (.all w.heap.size T) l->l.isMemory=true/\ ¬NN T l:=λl h=>by
   cases l with
   | cell a=>
    rcases h with h | h
    ·exact ⟨R,λ⟨n,e,o⟩=>by cases e;exact h.2 o⟩
    ·exact I5 h
   | obj y=>exact ⟨R,λ⟨n,e,_⟩=>by cases e⟩
   | _=>exact I5 h
  have p: ∀l,Wl (.all w.heap.size T) l->Rl (.all w.heap.size T) l:=λl h=>by
   cases l with
   | cell a=>exact h.imp And.left id
   | obj x=>exact h.1
   | _=>exact I5 h
  have key: ∀l,Rl (.all w.heap.size T) l-> ∀c a,touchAt t c=S a->a.loc=l->Knows t 0 c:=YS;refine ⟨h.led.quiet,h.led.plain,λk l d c a f e=> ?_,λk l d c a f e _=> ?_,h.led.nr⟩
  ·obtain ⟨rfl,q⟩:=d;exact key l (p l q) c a f e
  grind
 low:=h.low
 BH:=h.BH
 EA:=h.EA
 gl:=h.gl
 over:=h.over
 QG:=⟨λ_ h=>h.1,λ_ _ h=>h.elim⟩
 DC:=λ_ h=>h.1
 zB:=λ_ _ h=>h.elim
 out:=λb r=>⟨λh=>h.2 r,λ_ h=>h⟩
 slow:=h.slow
 pure:=aq.mX _ _
 fr:=h.fr
 nm:=h.nm
end
section
variable {g:Goroutine}
theorem cO.tI (h: ∀c,RK (E0 T) F w c->(∀b,T b->b<c.heap.size)-> ∃d:aq,d.sub (.all c.heap.size T)/\d.ok/\cO a T d g c):cO a T F g w:=
 aa.fin λc f i t j e=>by obtain ⟨d,k,l,n⟩:=h c f e.slow;exact Way.solo (m:=c.heap.size) k l n i t j e.all
end
section
variable {ρ:aU}{v:World}{val:cH}
def SH:Obj:= .chan 0 #[] false 0 0 false
def zq (v:World):World:={v with heap:=v.heap.push SH}
theorem dA.chan {X:Nat}(e:dA ρ v w)(t:X<w.heap.size)(A:0<X)(H: ∀ (i:Nat) k,ρ[i]? =S (X,k)->k= .gone):dA (ρ.push (X,.chan)) (zq v) w:=by
 have g: ∀ (i:Nat) y,(ρ.push (X,BK.chan))[i]? =S y->ρ[i]? =S y\/(i=ρ.size/\y=(X,.chan)):=YS;have up:Wx ρ (ρ.push (X,BK.chan)):=λb x h=>by grind
 have u: ∀ (b:Nat) o,v.heap[b]? =S o->(zq v).heap[b]? =S o:=λb o h=>by show (v.heap.push _)[b]? =_;grind
 refine ⟨?_,λi j x k l m B n t=> ?_,λi x k m n=> ?_,λi x k m n=> ?_,⟨YR,e.pos.2⟩,λb x p=> ?_,λb x p=> ?_⟩
 ·simp[zq,e.size]
 ·rcases g _ _ m with d | ⟨rfl,d⟩<;>rcases g _ _ B with z | ⟨rfl,z⟩
  ·exact e.inj i j x k l d z n t
  ·grind
  ·grind
  ·rfl
 ·rcases g _ _ m with d | ⟨rfl,d⟩
  ·exact e.low i x k d n
  grind
 ·rcases g _ _ m with d | ⟨rfl,d⟩
  ·exact e.et i x k d n
  ·cases d;exact ⟨e.pos.1,A⟩
 ·rcases g _ _ p with d | ⟨rfl,d⟩
  ·obtain ⟨c,C,f,D,E,q,r,s,F⟩:=e.cells b x d;exact ⟨c,C,f,D,E,u _ _ q,r,s.imp id (aB.iW up),F⟩
  ·cases d
 ·rcases g _ _ p with d | ⟨rfl,d⟩
  ·obtain ⟨a,G,l,q,r,s⟩:=e.num b x d;exact ⟨a,G,l,u _ _ q,r,s.iW up⟩
  ·cases d
theorem At.chan {X:Nat}(h:At E ρ v F val w)(m:X<w.heap.size)(n:0<X)(o: ∀ (i:Nat) k,ρ[i]? =S (X,k)->k= .gone):At E (ρ.push (X,.chan)) (zq v) F val w:=by
 have g: ∀ (i:Nat) y k,(ρ.push (X,BK.chan))[i]? =S (y,k)->k≠ .chan->ρ[i]? =S (y,k):=YS;have p: ∀ (b:Nat) x k,ρ[b]? =S (x,k)->(zq v).heap[b]? =v.heap[b]? :=λb x k a=>by have:=dP a;show (v.heap.push _)[b]? =_;rw[z8,if_neg (by have:=h.bQ.size;omega)]
 refine ⟨h.bQ.chan m n o,⟨λb x a j=> ?_,λb x a j=> ?_,λb x a=>h.fp.num b x (g _ _ _ a YR)⟩,h.fg,h.cells,h.held⟩
 ·have d:=g _ _ _ a YR;obtain ⟨c,e,f,q,l⟩:=j;exact h.fp.dc b x d ⟨c,e,f,YS,l⟩
 ·have d:=g _ _ _ a YR;obtain ⟨c,e,f,q,l⟩:=j;exact h.fp.wb b x d ⟨c,e,f,YS,l⟩
theorem ja (a:aU)(y:Nat×BK):Wx a (a.push y):=λb x h=>by grind
end
section
variable {Sp:ca->Tr->bC->List Ak->aq->Goroutine->World->Prop}{End:aq->Goroutine->World->Nat->Prop}{d:Nat}{r:ca}{lg:List bC}{ρ:aU}{val:cH}{x:Array Value}{i:Nat}{rest:List Nat}{a b:Operand}{c dd:Nat}
theorem Au (a:o.guard=none):A7 o (J2 h (D8 y []).tmps)=true:=by unfold A7;rw[a]
theorem vA (a:(w8 (D8 y []).eval o).events Try.prog w #[]= #[]):C8 Try.prog q (D8 y []) o w= #[]:=by unfold C8;rw[a,H9]
theorem yu {c:Array CommCase}{d:CommShape}(e:h[n]? =some o)(f:o.guard=none)(g:(execOp (Act.mk y []).eval o).run Try.prog w= .ok (.comm c true d) w)(i:(execOp (Act.mk y []).eval o).events Try.prog w #[]= #[]):
  J6 Try.prog H (G (ak q y (.inRegion h (n::rest)::k)) l) w= .comm (G (ak q y (.inRegion h (n::rest)::k)) l) c true d w #[]:=by
 have:=stepG_comm (P:=Try.prog) (main:=H) (b:=ak q y []) (a:=⟨y,[]⟩) (k:=k) (cs:=l) (rest:=rest) e (Au f) (by simp[ak]) g;rw[show C8 Try.prog (ak q y []).fn ⟨y,[]⟩ o w= #[]from vA i]at this;exact this
theorem aa.Fq (d:At E ρ v F val w)(f:h[i]? =S o)(g:o.guard=none)(j:o.dst=none)(a:o.op= .send Z b)(p:x7 ⟨y,[]⟩ Z= .chan (S J))(s:r A=S J)(t:E.V A n (x7 ⟨y,[]⟩ b))
  (K: ∀c,At E ρ v F val c->aa Try.prog E H Sp D End m r lg (.work false [] I) F (G (ak q y (.inRegion h rest::k)) l) c):aa Try.prog E H Sp D End m r lg (.work false [] (.send A n::I)) F (G (ak q y (.inRegion h (i::rest)::k)) l) w:=by
 refine aa.send (z:= .tuple #[]) s R R t (λc _=>yu f g ?_ ?_) λc u=> ?_
 ·unfold w8;rw[a];simp[p,scase]
 ·unfold w8;rw[a];simp
 ·have e:G2 (G (ak q y (.inRegion h (i::rest)::k)) l) U=G (ak q y (.inRegion h rest::k)) l:=by show G ((ak q y (.inRegion h (i::rest)::k)).finish U) l=_;rw[bu f,j]
  rw[e];exact K c (d.rely u)
def tX:x9:= J7 J8 0 0
section
variable {ev:Operand->Value}
theorem nf(g:t=102\/t=123)(a:o.op= .recv t Z H)(d:f Z= .chan (S n))(w:World):
  (w8 f o).run Try.prog w= .ok (.comm #[rcase n tX] true (.recv H)) w/\(w8 f o).events Try.prog w #[]= #[]:=by
 obtain ⟨h,e,b⟩:=E3.1 fY;simp only[Prod.mk.injEq]at b;unfold w8;rw[a];rcases g with rfl | rfl
 ·have c:=Try.underlying102;constructor<;>simp[go_sem,d,rcase,tX,G1 c,J1,J4,e,b.1,E4]
 ·have c:=Try.underlying123;constructor<;>simp[go_sem,d,rcase,tX,G1 c,J1,J4,e,b.1,E4]
theorem EZ {b:Array I3}(c:o.op= .call {callee:= .builtin .close,args:= #[a],argTypes:=b})(e:f a= .chan (S n))(d:w.heap[n]? =S (.chan m y false A J H)):
  (execOp f o).run Try.prog w= .ok (.value (.tuple #[])) {w with heap:=w.heap.setIfInBounds n (.chan m y true A J H)}/\(execOp f o).events Try.prog w #[]= #[⟨.obj n,false,true⟩,⟨.obj n,true,true⟩]:=by
 unfold execOp;simp only[c];constructor<;>simp[go_sem,e,run_close_open _ _ d,events_close_open _ _ d]
theorem Fb (b:o.op= .makeChan 102 a)(g:ev a= J9 K1 0)(w:World):
  (execOp ev o).run Try.prog w= .ok (.value (.chan (S w.heap.size))) {w with heap:=w.heap.push (.chan 0 #[] false 0 0 false)}/\(execOp ev o).events Try.prog w #[]= #[]:=by
 obtain ⟨d,c,_⟩:=E3.1 fY;have e:=run_makeChan (P:=Try.prog) (w:=w) Try.underlying102 c .i64 0 YQ YR;have f:=events_makeChan (P:=Try.prog) (w:=w) Try.underlying102 c .i64 0 YQ YR #[];simp only[Int.natCast_zero]at e f;unfold execOp;simp only[b];simp_all
end
theorem aa.EX{f:Bool}(c:At E ρ v F val w)(g:h[i]? =S o)(s:o.guard=none)(x:o.dst=S J)(j:t=102\/t=123)(b:o.op= .recv t Z f)(p:x7 ⟨y,[]⟩ Z= .chan (S A))(B:r m=S A)
  (K: ∀a u,At E ρ v F val a->E.V m n u->aa Try.prog E H Sp D End d r lg (.work false [] I) F (G (ak q (y.setIfInBounds J (C4 f u true)) (.inRegion h rest::k)) l) a):aa Try.prog E H Sp D End d r lg (.work false [] (.recv m n::I)) F (G (ak q y (.inRegion h (i::rest)::k)) l) w:=by
 refine aa.recv (z:=tX) B R R (λa _=>yu g s (nf j b p a).1 (nf j b p a).2) λa u C L=> ?_;have e: ∀u,G2 (G (ak q y (.inRegion h (i::rest)::k)) l) u=G (ak q (y.setIfInBounds J u) (.inRegion h rest::k)) l:=λu=>by show G ((ak q y (.inRegion h (i::rest)::k)).finish u) l=_;rw[bu g,x]
 rw[e];exact K a u (c.rely C) L
theorem aa.JN{f:Bool}(c:At E ρ v F val w)(g:h[i]? =S o)(s:o.guard=none)(x:o.dst=S A)(j:t=102\/t=123)(b:o.op= .recv t Z f)(p:x7 ⟨y,[]⟩ Z= .chan (S m))(B:r n=S m)
  (K: ∀a,At E ρ v F val a->aa Try.prog E H Sp D End d r lg (.work false [] I) F (G (ak q (y.setIfInBounds A (C4 f tX false)) (.inRegion h rest::k)) l) a):aa Try.prog E H Sp D End d r lg (.work false [] (.over n::I)) F (G (ak q y (.inRegion h (i::rest)::k)) l) w:=by
 refine aa.shut (z:=tX) B R R (λa _=>yu g s (nf j b p a).1 (nf j b p a).2) λa C=> ?_;have e: ∀u,G2 (G (ak q y (.inRegion h (i::rest)::k)) l) u=G (ak q (y.setIfInBounds A u) (.inRegion h rest::k)) l:=λu=>by show G ((ak q y (.inRegion h (i::rest)::k)).finish u) l=_;rw[bu g,x]
 rw[e];exact K a (c.rely C)
theorem aa.xq {e:Array I3}(f:At E ρ v F val w)(g:h[i]? =S o)(j:o.guard=none)(r:o.dst=none)(d:o.op= .call {callee:= .builtin .close,args:= #[a],argTypes:=e})(s:x7 ⟨y,[]⟩ a= .chan (S m))(t:z n=S m)(u:(Try.prog.funcs[q]?).any (·.norace)=false)
  (K: ∀c,At E ρ v F val c->aa Try.prog E H Sp D End 0 z lg (.work false [] I) F (G (ak q y (.inRegion h rest::k)) l) c):aa Try.prog E H Sp D End 0 z lg (.work false [] (.close n::I)) F (G (ak q y (.inRegion h (i::rest)::k)) l) w:=by
 refine aa.close (g':=G (ak q y (.inRegion h rest::k)) l) t R ⟨R,R⟩ ?_ R (λc x A p N O _ B=> ?_) λc C=>K c (f.rely C)
 ·skip
  simp[mayWake,G,ak,g,d]
 ·obtain ⟨J,L⟩:=EZ d s B;have:=D5 (P:=Try.prog) (main:=H) (b:=ak q y []) (a:=⟨y,[]⟩) (k:=k) (cs:=l) (rest:=rest) g (Au j) (by simp[ak]) J;have M:C8 Try.prog (ak q y []).fn ⟨y,[]⟩ o c= #[⟨.obj m,false,true⟩,⟨.obj m,true,true⟩]:=by unfold C8;rw[L];exact seen_eq u YR
  rw[M,r]at this;exact this
theorem aa.zO {p:Bool}{B:List (List Ak)}(C:H=true)(m:At E ρ v F val w)(J:aB ρ x y)(L:h[i]? =S o)(M:o.guard=none)(N:o.dst=S dd)(r:o.op= .makeChan 102 (.const (J9 K1 0)))(O:z c=none)
  (K: ∀g n,At E (ρ.push (n,.chan)) (zq v) F val g->aB (ρ.push (n,.chan)) (x.setIfInBounds dd (.chan (S ρ.size))) (y.setIfInBounds dd (.chan (S n)))->aa Try.prog E H Sp D End d (z.put c n) lg (.work p B I) F (G (ak q (y.setIfInBounds dd (.chan (S n))) (.inRegion h rest::k)) l) g):
  aa Try.prog E H Sp D End d z lg (.work p B I) F (G (ak q y (.inRegion h (i::rest)::k)) l) w:=by
 refine aa.make (es:= #[]) (λn=>G (ak q (y.setIfInBounds dd (.chan (S n))) (.inRegion h rest::k)) l) C O R (λ_=>⟨R,R⟩) (λe Q=>by simp at Q) (λg _=> ?_) λg T n s t Z V=> ?_
 ·obtain ⟨s,t⟩:=Fb (ev:=(D8 y []).eval) r R g;have:=D5 (P:=Try.prog) (main:=H) (b:=ak q y []) (a:=⟨y,[]⟩) (k:=k) (cs:=l) (rest:=rest) L (Au M) (by simp[ak]) s;rw[show C8 Try.prog (ak q y []).fn ⟨y,[]⟩ o g= #[]from vA t,N]at this;exact this
 ·have f:=m.rely s;have j:=f.rely t;have u:=λi k W=>D4 λX=>by have:=f.bQ.low i n k W X;omega
  have Y:0<n:=by have:=f.bQ.pos.2;omega
  refine K T n (j.chan V Y u) ?_;have A:VR (ρ.push (n,BK.chan)) (.chan (S ρ.size)) (.chan (S n)):= .chan YR;exact aB.set (aB.iW (ja ρ _) J) A
end
inductive kj (ops:Array Oper):Array Bool->List Nat->Prop
 | nil {dn:Array Bool}:(∀i,i<ops.size->dn.getD i false=true)->kj ops dn []
 | cons {dn:Array Bool} {i:Nat} {o:Oper} {L:List Nat}:ops[i]? =S o->dn.getD i true=false->(∀e∈o.after,C6 .any e=true->dn.getD e.on false=true)->kj ops (dn.setIfInBounds i true) L->kj ops dn (i::L)
theorem yf(d: ∀i o,h[i]? =some o-> ∀e∈o.after,Region.binds .any e=true->e.on<i):
  ∀ (c t:Nat)(a:Array Bool),a.size=h.size->a.countP (λb=> !b)<=c->kj h a (Region.linearise.go .any h c t a []):=by
 have k: ∀a:Array Bool,a.size=h.size->Region.ready .any h a= []-> ∀i,i<h.size->a.getD i false=true:=by
  intro a f F i;induction i using Nat.strongRecOn with
  | _ i q=>
   intro p;cases v:a.getD i false with
   | true=>rfl
   | false=>
    have g:i<a.size:=YP;have r:a.getD i true=false:=by rw[Array.getD_eq_getD_getElem?,Array.getElem?_eq_getElem g]at v ⊢;exact v
    have G:=mem_ready.2 ⟨r,h[i],Array.getElem?_eq_getElem p,λe l w=>q e.on (d i _ (Array.getElem?_eq_getElem p) e l w) (by have:=d i _ (Array.getElem?_eq_getElem p) e l w;omega)⟩;grind
 intro c;induction c with
 | zero=>intro t a f A;refine .nil λi p=> ?_;have g:i<a.size:=YP;have B:a.countP (λb=> !b)=0:=YP;have:=Array.countP_eq_zero.1 B a[i] (Array.getElem_mem g);simp_all
 | succ c q=>
  intro t a f A;simp only[Region.linearise.go];change kj h a (match (Region.ready .any h a)[t % (Region.ready .any h a).length]? with
   | some i=>Region.linearise.go .any h c (t / (Region.ready .any h a).length) (a.setIfInBounds i true) [i]
   | none=> [].reverse)
  cases x:(Region.ready .any h a)[t % (Region.ready .any h a).length]? with
  | none=>
   refine .nil (k a f ?_);rw[List.getElem?_eq_none_iff]at x;rcases Nat.eq_zero_or_pos (Region.ready .any h a).length with y | y
   ·grind
   ·have:=Nat.mod_lt t y;omega
  | some i=>
   have s:=List.mem_of_getElem? x;obtain ⟨u,o,C,D⟩:=mem_ready.1 s;have E:i<h.size:=YS;have j:i<a.size:=YP;have m:a[i]=false:=by rw[Array.getD_eq_getD_getElem?,Array.getElem?_eq_getElem j]at u;simpa using u
   have z:(a.setIfInBounds i true).countP (λb=> !b) + 1=a.countP (λb=> !b):=by
    have n:a.setIfInBounds i true=a.set i true:=by simp[Array.setIfInBounds,j]
    rw[n,Array.countP_set];simp[m];have:0<a.countP (λb=> !b):=by rw[Array.countP_pos_iff];exact ⟨a[i],Array.getElem_mem j,by simp[m]⟩
    omega
   dsimp only;rw[linearise_go_acc,List.reverse_singleton];exact .cons C u D (q _ _ YS YP)
section
variable {P:Program}{E:Env}{m:Bool}{Sp:ca->Tr->bC->List Ak->aq->Goroutine->World->Prop}{Lg:bC}{End:aq->Goroutine->World->Nat->Prop}{d:Nat}{r:ca}{lg:List bC}{ph:Ph}{F:aq}{w:World}{ρ:aU}{v:World}{val:cH}{fn:FuncId}{x y:Array Value}{l:List Frame}
structure CO where
 r:ca
 ρ:aU
 v:World
 F:aq
 x:Array x9
def mr (P:Program)(E:Env)(m:Bool)(e:ca->Tr->bC->List Ak->aq->Goroutine->World->Prop)(f:bC)(b:aq->Goroutine->World->Nat->Prop)(d:Nat)(g:List bC)(h:Ph)(c:cH)(i:FuncId)(l:List Frame)(s:CO)(a:List Item):Prop:=
 ∀y w,At E s.ρ s.v s.F c w->aB s.ρ s.x y->aa P E m e f b d s.r g h s.F (G (ak i y a) l) w
theorem aa.EH{I:Array Bool->CO->Prop}
  (m: ∀ (c:Array Bool) f o s d,I c s->c.size=h.size->h[f]? =S o->c.getD f true=false->(∀e∈o.after,C6 .any e=true->c.getD e.on false=true)->(∀g,I (c.setIfInBounds f true) g->mr P E H b D a n lg ph i q l g (.inRegion h d::k))->mr P E H b D a n lg ph i q l s (.inRegion h (f::d)::k))
  (p: ∀ (c:Array Bool) s,I c s->(∀f,f<h.size->c.getD f false=true)->mr P E H b D a n lg ph i q l s (.inRegion h []::k)):
  ∀ {c:Array Bool}{L:List Nat},kj h c L->c.size=h.size-> ∀s,I c s->mr P E H b D a n lg ph i q l s (.inRegion h L::k):=by
 intro c L j;induction j with
 | nil j=>grind
 | cons r t u _ v=>grind
theorem aa.order {j:Array Oper}{C:Nat}{I:Array Bool->CO->Prop}(J: ¬ph.late)(W:P.follows .mixedOrders=true)(X:(I4 j.size).all (λi=>((j[i]?).map λo=>o.guard.isNone && o.after.all λe=> !C6 .any e || decide (e.on<i)).getD true)=true)
  (p:At E ρ v F val w)(K:aB ρ x y)(L:I (Array.replicate j.size false) ⟨z,ρ,v,F,x⟩)
  (Y: ∀ (m:Array Bool) i o s r,I m s->m.size=j.size->j[i]? =S o->m.getD i true=false->(∀e∈o.after,C6 .any e=true->m.getD e.on false=true)->(∀O,I (m.setIfInBounds i true) O->mr P E H Sp D a d lg ph val q l O (.inRegion j r::k))->mr P E H Sp D a d lg ph val q l s (.inRegion j (i::r)::k))
  (Z: ∀ (m:Array Bool) s,I m s->(∀i,i<j.size->m.getD i false=true)->mr P E H Sp D a d lg ph val q l s k):aa P E H Sp D a d z lg ph F (G (ak q y (.code (.region C j true)::k)) l) w:=by
 have A: ∀i o,j[i]? =S o-> ∀e∈o.after,C6 .any e=true->e.on<i:=by intro i o ho e M N;have hi:i<j.size:=YS;have:=List.all_eq_true.1 X i (List.mem_range.2 hi);rw[ho]at this;simp only[B6,Option.getD_some,Bool.and_eq_true]at this;have Q:=Array.all_eq_true'.1 this.2 e M;rw[N]at Q;simpa using Q
 have T: ∀ (u:World),J6 P H (G (ak q y (.code (.region C j true)::k)) l) u= .go (G (ak q y (.inRegion j (E6 (P.follows .mixedOrders) j (u.tape u.drawn (.order q C)))::k)) l) {u with drawn:=u.drawn + 1}:=λu=>by rfl
 refine aa.step (λ_=>F) R J (λt V=>⟨_,_,_,T t,⟨λ_ _ _ _=>rfl,λb c e f _ h=>⟨c,h,R,λ_ _=>rfl⟩,A2 _,λb c e f h=>⟨c,f,h⟩,R,R,R,λe M=>by simp at M⟩,⟨R,R⟩,?_,p.fg.ok⟩) λt g' w' es V e=> ?_
 ·exact ⟨λ_ h=> .inl h,λ_ h=> .inl h,λ_ _ h=> .inl h⟩
 ·rw[T]at e;injection e with e1 e2
  subst e1;subst e2;have g:=p.rely V;have B:At E ρ v F val {t with drawn:=t.drawn + 1}:=⟨⟨g.bQ.size,g.bQ.inj,g.bQ.low,g.bQ.et,g.bQ.pos,g.bQ.cells,g.bQ.num⟩,g.fp,⟨g.fg.ok,g.fg.low,g.fg.dZ,g.fg.out,g.fg.live,g.fg.pure⟩,g.cells,g.held⟩;have hl:kj j (Array.replicate j.size false) (E6 (P.follows .mixedOrders) j (t.tape t.drawn (.order q C))):=by simp only[E6,W,Bool.true_or,if_true];exact yf A _ _ _ YR (by rw[<-Array.size_replicate (n:=j.size) (v:=false)];grind)
  refine aa.EH Y (λm s L hd y w p K=> ?_) hl YR ⟨z,ρ,v,F,x⟩ L y _ B K;refine aa.go p (by cases ph<;>simp_all[Ph.late]) (λ_=>qj) λt g=> ?_;exact Z m s L hd y t g K
end
section
open Go.Conc.Lib
open Go.ConcR (KK WgAt stA smA)
def nE (F:aq)(a c:Nat->Prop)(A B:Nat):aq:=⟨λb=>(F.rd b/\ ¬c b)\/b=A\/b=B,a,λ_ _=>False⟩
def fX (F:aq)(a c:Nat->Prop):aq:=⟨λb=>F.rd b/\ ¬a b,c,λ_ _=>False⟩
structure Kd (F:aq)(Wc KW:Nat->Prop):Prop where
 cl: ∀b j,¬F.cl b j
 wc: ∀b,Wc b->F.wr b/\F.rd b
 kw: ∀b,KW b->F.wr b/\F.rd b
 lN: ∀b,Wc b-> ¬KW b
section
variable {KW:Nat->Prop}
theorem Kd.split (a:Kd F W KW)(c:FG E F w)(e:w.heap.size<=A)(f:A<n):
  (nE F W KW A n).sub ((F.add A (A + 1)).add n (n + 1))/\(nE F W KW A n).apart (fX F W KW)/\(nE F W KW A n).ok:=by
 refine ⟨⟨λb h=> ?_,λb h=> .inl (.inl (a.wc b h).1),λ_ _ h=>h.elim⟩,⟨λb h d=>d.2 h,λb h d=> ?_,λ_ _ h=>h.elim,λ_ _ h=>h.elim,λ_ _ h=>h.elim⟩,⟨λb h=> .inl ⟨(a.wc b h).2,a.lN b h⟩,λ_ _ h=>h.elim⟩⟩
 ·rcases h with h | rfl | rfl
  ·exact .inl (.inl h.1)
  ·exact .inl (.inr ⟨A2 _,I0 _⟩)
  ·exact .inr ⟨A2 _,I0 _⟩
 ·rcases d with d | rfl | rfl
  ·exact d.2 h
  ·have:=c.dZ _ (a.kw _ h).2;omega
  ·have:=c.dZ _ (a.kw _ h).2;omega
theorem Kd.sub (a:Kd F W KW):(fX F W KW).sub F/\(fX F W KW).ok:=
 ⟨⟨λ_ h=>h.1,λb h=>(a.kw b h).1,λ_ _ h=>h.elim⟩,⟨λb h=>⟨(a.kw b h).2,λc=>a.lN b c h⟩,λ_ _ h=>h.elim⟩⟩
end
section
variable {Lg L:bC}{End:aq->Goroutine->World->Nat->Prop}{r:ca}{lg:List bC}{ρ:aU}{val:cH}{i:Nat}{rest:List Nat}{MQ:Array TypeId}{fq:FuncId}{jY:Array Value}{pl:List (List Ak)}{s:List Ak}{Wc KW:Nat->Prop}
def oD (c d:Nat)(a:Array x9)(A B:Nat):cH:=⟨λ_ _=>none,λb=>if b=A then S (.cells #[K4 (S ⟨c,0,none⟩)] 122)else if b=B then S (.cells #[.func (.func d) #[] a] 1)else none,λ_=>none⟩
theorem kY (a:At E ρ v F val w)(h0:E.on)(z:Kd F Wc KW)(C: ∀b u,val.bk b=some u-> ¬Wc b/\ ¬KW b)(P: ∀j,Wc j\/KW j-> ∃b:Nat,ρ[b]? =some (j,.cells))(hL: ∀F w w1,dD F w w1->L F w->L F w1)
  (ho:h[i]? =some o)(Q:o.guard=none)(V:o.op= .call {callee:= .value (.func 34),args:= #[x,Z],argTypes:=MQ})(hx:x7 ⟨y,[]⟩ x= K4 (some ⟨E.Wg,0,none⟩))(hz:x7 ⟨y,[]⟩ Z= .func (.func fq) #[] jY)
  (hc: ∀n A B,A≠B->At E ρ (dL ρ KW Wc v) (nE F Wc KW A B) (oD E.Wg fq jY A B) n-> ∃T,mC Try.prog E r T L I (nE F Wc KW A B) (born Try.prog (CE A B)) n)
  (K: ∀n,At E ρ (dL ρ Wc KW v) (fX F Wc KW) val n->aa Try.prog E true (mC Try.prog E) D End 0 r (lg ++ [L]) (.work false pl s) (fX F Wc KW) (G (ak q (match o.dst with | some d=>y.setIfInBounds d (.tuple #[]) | none=>y) (.inRegion h rest::k)) l) n):
  aa Try.prog E true (mC Try.prog E) D End 0 r lg (.work false (I::pl) s) F (G (ak q y (.inRegion h (i::rest)::k)) l) w:=by
 obtain ⟨H,t⟩:=z.sub;have p: ∀ (b j:Nat),ρ[b]? =some (j,.num)-> ¬ (Wc j\/KW j):=λb j c Q=>by obtain ⟨b',W⟩:=P j Q;have:=a.bQ.inj b b' j _ _ c W YQ YQ;grind
 refine DI (b₀:=base q) (a₀:=⟨y,[]⟩) (i₀:=i) (rest₀:=rest) (L:=L) a.fg h0 (nE F Wc KW) (fX F Wc KW) hL (λA B N X=>z.split a.fg N X) H t ho (Au Q) (by simp[base]) V hx hz ?_ ?_
 ·intro n A B O N X m;have f:=a.rely O;obtain ⟨Y,_,J⟩:=z.split a.fg N X;have a0:=aG m.a;have a2:=aG m.b;have a1:=O.keep.size;refine hc n A B YP (f.ex (λj g h'=> .inl ⟨g,h'⟩) (λj g=>⟨g,J.wr j g⟩) (λb j c=> .inl ⟨a.fp.num b j c,λg=>p b j c (.inr g)⟩) ⟨J,λ_ _ g=>g.elim,λb c=> ?_,λb c=>⟨(f.fg.out b c).1,λM=> ?_,λ_ g=>g⟩,f.fg.live,((a.fg.pure.add (Nat.le_trans a.fg.live.2.1 N)).add (by have:=a.fg.live.2.1;omega)).sub Y⟩ (λ_ _ g=>g.elim) λb u c=> ?_)
  ·rcases c with c | rfl | rfl
   ·have:=a.fg.dZ b c.1;omega
   ·exact a0
   omega
  ·have a3:=(a.fg.out b c).1;rcases M with M | M | M
   ·exact (a.fg.out b c).2.1 M.1
   ·omega
   ·omega
  ·dsimp only[oD]at c;split at c
   ·rename_i e;subst e;cases c;exact ⟨.inr (.inl R),λhw=>by have:=a.fg.dZ b (z.wc _ hw).2;omega,m.a⟩
   ·split at c
    ·rename_i e;subst e;cases c;exact ⟨.inr (.inr R),λhw=>by have:=a.fg.dZ b (z.wc _ hw).2;omega,m.b⟩
    ·cases c
 ·intro n O;have f:=a.rely O;rw[uB];have e:(Act.put ⟨y,[]⟩ o.dst (.tuple #[])).tmps=(match o.dst with | some d=>y.setIfInBounds d (.tuple #[]) | none=>y):=by cases o.dst<;>rfl
  rw[e];exact K n (f.ex (λj g h'=>⟨g,h'⟩) (λj g=>⟨g,t.wr j g⟩) (λb j c=>⟨a.fp.num b j c,λg=>p b j c (.inl g)⟩) (f.fg.ym H t λ_ _ g=>g.elim) (λ_ _ g=>g.elim) λb u c=>by obtain ⟨h1,h2,h3⟩:=f.held b u c;exact ⟨⟨h1,(C b u c).1⟩,(C b u c).2,h3⟩)
theorem kX {e:Func}{h:G0}(a:At E c v F (oD E.Wg q y A n) w)(g:A≠n)(j:Try.prog.funcs[q]? =S e)(b:(e.name== "runtime.NumGoroutine")=false)(k:e.body=S h)
  (K: ∀f,At E c v F (oD E.Wg q y A n) f->aa Try.prog E false oI L gU 0 z [] (.work false [] I) F (G (ak q (y ++ z7 (e.ntmps - y.size) U) [.code h]) [pO A n q y [1],jU Try.prog]) f):
  ∃T,mC Try.prog E z T L I F (born Try.prog (CE A n)) w:=by
 have i:=a.held A (.cells #[K4 (S ⟨E.Wg,0,none⟩)] 122) (by simp[oD]);have d:=a.held n (.cells #[.func (.func q) #[] y] 1) (by simp[oD,g.symm]);exact rF (Sp:=oI) (Lg:=L) (End:=gU) (lg:= []) a.fg.live a.fg.ok i.1 d.1 ⟨i.2.2,d.2.2⟩ j b k λf l=>K f (a.rely l)
theorem ib(a:At E c v F (oD E.Wg q y A n) w)(e:E.on)(f: ∀b,RK E F w b->D F b)(u:x9):
  aa Try.prog E false oI D gU 0 z [] (.work false [] []) F (G ((pO A n q y [1]).finish u) [jU Try.prog]) w:=by
 have d:=a.held A (.cells #[K4 (S ⟨E.Wg,0,none⟩)] 122) (by simp[oD]);exact zC a.fg.live e a.fg.ok d.1 d.2.2 f u
end
section
variable {S:Sx}{v:World}{KW:Nat->Prop}{bk:Nat->Option Obj}
theorem At.group (a:At (E0 S) c v F bO w)(e: ∀x,KW x->F.wr x)(o: ∀b n,bk b=some n->F.rd b/\ ¬KW b/\w.heap[b]? =some n):
  At (E1 V S w.heap.size) (c.push (w.heap.size,.cells)) (dL (c.push (w.heap.size,.cells)) (λ_=>False) KW {v with heap:=v.heap.push (.cells #[] 101)}) ⟨F.rd,KW,λ_ _=>False⟩ ⟨λ_ _=>none,bk,λ_=>none⟩ (w.alloc (.cells #[.int .u64 0,.int .u32 0] 101))/\
  (⟨F.rd,KW,λ_ _=>False⟩:aq).sub (F.add w.heap.size (w.heap.size + 1)):=by
 have d:=Grow.alloc w (.cells #[.int .u64 0,.int .u32 0] 101);have r:=a.grow d;have g:(w.alloc (.cells #[.int .u64 0,.int .u32 0] 101)).heap[w.heap.size]? =some (.cells #[.int .u64 0,.int .u32 0] 101):=by show (w.heap.push _)[w.heap.size]? =_;simp
 have s:(w.alloc (.cells #[.int .u64 0,.int .u32 0] 101)).heap.size=w.heap.size + 1:=by show (w.heap.push _).size=_;simp
 generalize w.alloc (.cells #[.int .u64 0,.int .u32 0] 101)=z at *;have j:=r.bQ.wQ g a.bQ.pos.2 λi k t=>D4 λu=>by have:=a.bQ.low i _ k t u;omega
 have m:FP (c.push (w.heap.size,.cells)) {v with heap:=v.heap.push (.cells #[] 101)} F:=a.fp.wQ a.bQ;refine ⟨⟨j.mask,m.dL j (λx h _=>h) (λx h=>⟨h,a.fg.ok.wr x (e x h)⟩) (λb x f=>m.num b x f),⟨⟨λb h=>a.fg.ok.wr b (e b h),λ_ _ h=>h.elim⟩,λ_ _ h=>h.elim,λb h=>by have:=a.fg.dZ b h;omega,λb f=> ?_,⟨λ_=>⟨0,0,g⟩,Sx.dR (S:=S.add w.heap.size) a.fg.live.2 d.size (λb f=>d.same b (z4 f a.fg.live.2.1)) ⟨d.os,d.output⟩⟩,λb f=>⟨λh=>(a.fg.pure b f).1 (e b h),λ_ h=>h⟩⟩,λ_ _ h=>h.elim,λb n f=> ?_⟩,⟨λb h=> .inl h,λb h=> .inl (e b h),λ_ _ h=>h.elim⟩⟩
 ·have l:S b\/b=w.heap.size:=f.elim id λh=> .inr h.2;rcases l with l | rfl
  ·obtain ⟨p,q,_⟩:=a.fg.out b (.inl l);grind
  ·exact ⟨YP,λh=>by have:=a.fg.dZ _ h;omega,λ_ h=>h⟩
 ·obtain ⟨p,q,y⟩:=o b n f;exact ⟨p,q,(d.same b (a.fg.dZ b p)).trans y⟩
def Ty (v v':World):Prop:= ∀ (b:Nat) c e f,v.heap[b]? =some (.cells c e f)-> ∃a d,v'.heap[b]? =some (.cells a e d)
theorem Ty.trans {a b c:World}(h:Ty a b)(k:Ty b c):Ty a c:=λx d e f g=>by obtain ⟨i,j,l⟩:=h x d e f g;exact k x i e j l
theorem Ty.low {v':World}(h:ar v v'):Ty v v':=λb c e f a=>⟨c,f,by rw[h.2 b (aG a)];exact a⟩
theorem Ty.ex (ρ:aU)(X W:Nat->Prop)(v:World):Ty v (dL ρ X W v):=λb c e f a=>by
 unfold dL;rw[dQ,a];simp only[B6,lD];split
 ·exact ⟨_,_,R⟩
 grind
theorem At.restore {J:Env}{K:aq}{j:World}{p:aU}{B:World}{q:cH}{S':Sx}(g:At E c v F i w)(m:At J p B K q j)(r:Wx c p)(L:Ty v B)(C: ∀b x:Nat,c[b]? =some (x,.num)->j.heap[x]? =w.heap[x]?)
  (s: ∀b x:Nat,c[b]? =some (x,.cells)->Dc v b->j.heap[x]? =w.heap[x]?)(y: ∀b,S' b->b<j.heap.size/\ ¬F.rd b)(Y:S'.n=E.S.n)(M:S'.old j):At (E0 S') c v (.all j.heap.size S') bO j where
 bQ:=by
  refine ⟨g.bQ.size,g.bQ.inj,λN x k O D=>m.bQ.low N x k (r _ _ O) D,g.bQ.et,⟨g.bQ.pos.1,m.bQ.pos.2⟩,λb x d=> ?_,λb x d=> ?_⟩;rotate_left
  ·obtain ⟨a,Z,l,t,G,H⟩:=g.bQ.num b x d;grind
  obtain ⟨n,e,f,P,Q,t,G,H,T⟩:=g.bQ.cells b x d;by_cases o:0<n.size
  ·exact ⟨n,e,f,P,Q,t,by rw[s b x d ⟨n,e,f,t,o⟩];exact G,H,T⟩
  ·obtain ⟨c2,e2,f2,V,W,I,X,_,_⟩:=m.bQ.cells b x (r _ _ d);obtain ⟨c4,f4,z⟩:=L b n e f t;rw[z]at I;cases I;have A:n= #[]:=YS;exact ⟨n,e,f,V,W,t,X,.inl A,λk D=>YP⟩
 fp:=⟨λb x d o=>⟨m.bQ.low _ _ _ (r _ _ d) YQ,λu=>(y x u).2 (g.fp.dc b x d o)⟩,λb x d o=>⟨⟨m.bQ.low _ _ _ (r _ _ d) YQ,λu=>(y x u).2 (g.fg.ok.wr _ (g.fp.wb b x d o))⟩,Nat.not_lt.1 λh=>(g.fg.pure x YP).1 (g.fp.wb b x d o)⟩,λb x d=>⟨m.bQ.low _ _ _ (r _ _ d) YQ,λu=>(y x u).2 (g.fp.num b x d)⟩⟩
 fg:=xD (λb d=>(y b d).1) M
 cells:=λ_ _ h=>h.elim
 held:=pQ _ _
end
end
def aF (w:World)(B L n:Nat)(G:C2)(a:Nat->dM)(d:Nat->C2×C2):Prop:=
 ∃g c b,w.rangeAt B 0 [J7 J8 g c,K3 (S ⟨L,0,none⟩) n b]/\aS (J7 J8 g c) G/\Links w L n a d/\B≠L/\B<w.heap.size/\L<w.heap.size
theorem aF.grown {w d:World}{B L n:Nat}{G:C2}{a:Nat->dM}{e:Nat->C2×C2}{row:Option Nat}(h:aF w B L n G a e)(b:w.grownBy d row)(i:S B≠row)(k:S L≠row):aF d B L n G a e:=by obtain ⟨g,l,c,m,o,p,q,r,f⟩:=h;exact ⟨g,l,c,λj v s=>b.cell (m j v s) i,o,p.grown b f k,q,z4 r b.size,z4 f b.size⟩
theorem aF.below {w':World}(h:aF w m L n P p C)(a:Below w.heap.size w w'):aF w' m L n P p C:=h.grown (di a none) YR YR
theorem aF.lt(h:aF w m L n P p C):m<w.heap.size/\L<w.heap.size/\m≠L:=by obtain ⟨g,b,a,_,_,_,c,d,e⟩:=h;omega
theorem Ey{sec:Nat->dM}(b:cY (J7 J8 m A))(c:aS (J7 J8 m A) P)(d:bn w u n sec)(f:n<=16):
  C1 Try.prog 9 #[.agg #[J7 J8 m A,u]] w λe a=> ∃B L,e= .returned (.tuple #[K4 (S ⟨B,0,none⟩),J9 K1 0])/\w.heap.size<=B/\w.heap.size<=L/\aF a B L n P sec aI/\Below w.heap.size w a:=by
 refine (uL m A n u sec w b d f).mono ?_;rintro e a ⟨B,L,rfl,g,h,i,j,k,l,o,p⟩;exact ⟨B,L,R,h,i,⟨m,A,n,l,c,o,g,j,k⟩,p⟩
theorem Aj{X:C2}(h:aF w m L n P p C)(s:aS (J7 J8 A J) X)(t:n<=16):
  C1 Try.prog 18 #[K4 (S ⟨m,0,none⟩),J7 J8 A J] w λe c=> ∃r i,e= .returned (J7 J8 r i)/\aS (J7 J8 r i) (sE p C (bm P X) n)/\aF c m L n P p (fO p C (bm P X) n)/\w.grownBy c (S L):=by
 obtain ⟨g,d,a,f,k,u,l,x,o⟩:=h;refine (nB m L n a g d A J P X p C w f k s u l t o).mono ?_;rintro e c ⟨y,rfl,q,z,b⟩;obtain ⟨r,i,rfl,_⟩:=id q;exact ⟨r,i,R,q,⟨g,d,a,λj v B=>b.cell (f j v B) YS,k,z,l,z4 x b.size,z4 o b.size⟩,b⟩
theorem QR(h:aF w J L n P p C)(k:bj w u m X)(B:m<=8796093022208)(l: ∀b o,(∃D c,u= K3 (S ⟨b,o,none⟩) D c)->0<m->b≠L)(E:n<=16):
  C1 Try.prog 15 #[K4 (S ⟨J,0,none⟩),u] w λe a=> ∃A,e= .returned (K3 (S ⟨A,0,none⟩) m m)/\w.heap.size<=A/\A<a.heap.size/\(∀j,j<m-> ∃s,a.cell? ⟨A,j,none⟩=S s/\aS s (hU P n p C X j))/\
   aF a J L n P p (oT P n p C X m)/\w.grownBy a (S L):=by
 obtain ⟨g,t,d,v,x,F,y,G,z⟩:=h;refine (Dl J L n d g t m u P X p C w v x k B l F y E z).mono ?_;rintro e a ⟨A,rfl,q,r,f,H,i⟩;exact ⟨A,R,q,r,f,⟨g,t,d,λj u k=>i.cell (v j u k) YS,x,H,y,z4 G i.size,z4 z i.size⟩,i⟩
def gG:C2:=(lf 4604930618986332160,lf 4602678819172646912)
theorem rG:aS (J7 J8 4604930618986332160 4602678819172646912) gG:=aS.of _ _ YP YP
theorem nD:cY (J7 J8 4604930618986332160 4602678819172646912):=⟨_,_,R,YP,YP,YQ⟩
noncomputable def PL:G0:=match Try.f36.body with | some c=>c | _=> .skip
noncomputable def uj:G0:=match Try.f36.body with | some (.seq (.seq _ (.block _ (.loop c))) _)=>c | _=> .skip
noncomputable def PW:G0:=match Try.f36.body with | some (.seq _ c)=>c | _=> .skip
theorem aF.heap {v':World}{B:Nat}{b:Nat->dM}(h:aF v B L n P b C)(e:v'.heap=v.heap):aF v' B L n P b C:=by
 have c: ∀a,v'.cell? a=v.cell? a:=λa=>by unfold w7;rw[e]
 have l: ∀a,v'.frozen? a=v.frozen? a:=λa=>by unfold A6;rw[e]
 obtain ⟨g,m,d,o,r,⟨s,f⟩,t,H,I⟩:=h;refine ⟨g,m,d,λj x k=>by rw[c];exact o j x k,r,⟨λj u=>by rw[c,l];exact s j u,λi w=> ?_⟩,t,YS,YS⟩;obtain ⟨y,z,A,D,E,p,q,F,G⟩:=f i w;exact ⟨y,z,A,D,E,p,q,λj x k=>by rw[c];exact F j x k,G⟩
theorem VR.KA{k:FloatKind}(h:VR c (.complex k n m) u):u= .complex k n m:=by cases h;rfl
theorem VR.tY {ρ:aU}(h:VR ρ (.chan (S n)) u)(a:ρ[n]? =S (m,.chan)):u= .chan (S m):=by
 cases h with
 | chan h=>grind
def iX (a b:Nat)(c:Nat->Nat):Nat->Nat->List Ak
 | 0,_=> [.over a,.close b]
 | q + 1,t=> .recv a (c t):: .send b (c t)::iX a b c q (t + 1)
section
variable {Lg:bC}{val:cH}{c:Frame}{bi bo Xi Xo:Nat}
theorem Bh (hn:n<=16)(a8: ∀t u,t<m->E.V A (B t) u->aS u (X t))(b8: ∀t u,t<m->aS u (hU P n p aI X t)->E.V J (B t) u)(a5:z A=S Xi)(a6:z J=S Xo)
  (K: ∀a9 N F' w',At E a9 N F' val w'->aa Try.prog E false oI D gU 0 z [] (.work false [] []) F' (G (c.finish (.tuple #[])) l) w'):
  ∀ (q t:Nat)(I:aU)(v:World)(F:aq)(w:World)(y:Array Value)(u3 u4 u5 u6 u8 u9 u10 u11 u12 u13 u14 u15:Value),t + q=m->At E I v F val w->I[bi]? =S (Xi,.chan)->I[bo]? =S (Xo,.chan)->aF v O L n P p (oT P n p aI X t)->
   aB I #[K4 (S ⟨O,0,none⟩),.chan (S bi),.chan (S bo),u3,u4,u5,u6,.chan (S bi),u8,u9,u10,u11,u12,u13,u14,u15] y->
   aa Try.prog E false oI D gU 0 z [] (.work false [] (iX A J B q t)) F (G (ak 36 y [.code uj,.inLoop uj,.inBlock 0,.code PW]) (c::l)) w:=by
 have chan: ∀ {I:aU}{b x:Nat}{b9:Value},I[b]? =S (x,.chan)->VR I (.chan (S b)) b9->b9= .chan (S x):=λhb h=>by
  cases h with
  | chan h=>grind
 intro q;induction q with
 | zero=>
  intro t I v F w y u3 u4 u5 u6 u8 u9 u10 u11 u12 u13 u14 u15 hq f k o g W;have M:uj=uj:=rfl;conv at M=>rhs;unfold uj;simp only[Try.f36]
  rw[M];unfold iX;refine aa.ah f λw f=> ?_;refine aa.aC f λw f=> ?_;refine aa.JN (i:=0) (t:=123) f R R R (.inr R) R (chan k (W.ev (t:=7) R)) a5 λw f=> ?_;have j:=W.put (d:=S 8) (show VR I (C4 true tX false) (C4 true tX false)from Plain.vr (.tuple R λi x y s hy=>by
   rcases i with _ | _ | i
   ·cases s;cases hy;exact .complex _ _ _
   ·cases s;cases hy;exact .bool _
   ·cases s) I)
  simp only[A3,B8,C0]at j;refine aa.ops (L:= [1]) (rest:= []) (ey:= #[_]) (Q:=λZ N=>Z= #[K4 (S ⟨O,0,none⟩),.chan (S bi),.chan (S bo),u3,u4,u5,u6,.chan (S bi),C4 true tX false,.bool false,u10,u11,u12,u13,u14,u15]/\N.heap=v.heap) bh ⟨_,Try.func36⟩ Zo 0 (.cons ⟨_,R,R,Zn,R⟩ .nil) Zn YU YU f j (λtp=> ?_) ?_
  ·have Hc:=au g;clear f W j g k o;unfold C4 tX;go_wp2
   rfl
  ·rintro b0 x2 y2 v2 w2 F2 a2 b1 ⟨rfl,C⟩ f r;refine aa.aH f λw f=> ?_;refine aa.ah f λw f=> ?_;refine aa.go f YR (λ_=>bH (r.bool R)) λw f=> ?_;simp only[A8, ↓reduceIte];refine aa.go f YR (λ_=>fe R) λw f=> ?_;have e4:PW=PW:=rfl;conv at e4=>rhs;unfold PW;simp only[Try.f36]
   rw[e4];refine aa.aC f λw f=> ?_;refine aa.ops (L:= [0]) (rest:= [1]) (ey:= #[_]) (Q:=λZ N=>Z= #[K4 (S ⟨O,0,none⟩),.chan (S bi),.chan (S bo),u3,u4,u5,u6,.chan (S bi),C4 true tX false,.bool false,u10,u11,u12,u13,u14,.chan (S bo)]/\N.heap=v2.heap) bh ⟨_,Try.func36⟩ Zo 0 (.cons ⟨_,R,R,Zn,R⟩ .nil) Zn YU YU f r (λtp=> ?_) ?_
   ·have Hc:=au (And.intro g C);clear f W j g k o r C;go_wp2
    rfl
   ·rintro b2 x3 y3 v3 w3 F3 a3 b3 ⟨rfl,T⟩ f a0;refine aa.xq (i:=1) f R R R R (chan (a3 _ _ (a2 _ _ o)) (a0.ev (t:=15) R)) a6 Zn λw f=> ?_;refine aa.aH f λw f=> ?_;refine aa.gQ f λw f=> ?_;refine aa.go f YR (λ_=>dT Try.func36 R) λw f=> ?_;grind
 | succ q ih=>
  intro t I v F w y u3 u4 u5 u6 u8 u9 u10 u11 u12 u13 u14 u15 hq f k o g W;have b4:t<m:=YP;have M:uj=uj:=rfl;conv at M=>rhs;unfold uj;simp only[Try.f36]
  rw[M];unfold iX;refine aa.ah f λw f=> ?_;refine aa.aC f λw f=> ?_;refine aa.EX (i:=0) (t:=123) f R R R (.inr R) R (chan k (W.ev (t:=7) R)) a5 λw u f hu=> ?_;have s:=a8 t u b4 hu;obtain ⟨a,Y,rfl,_⟩:=id s;have j:=W.put (d:=S 8) (show VR I (C4 true (J7 J8 a Y) true) (C4 true (J7 J8 a Y) true)from Plain.vr (.tuple R λi x y s hy=>by
   rcases i with _ | _ | i
   ·cases s;cases hy;exact .complex _ _ _
   ·cases s;cases hy;exact .bool _
   ·cases s) I)
  simp only[A3,B8,C0]at j;refine aa.ops (L:= [1]) (rest:= []) (ey:= #[_]) (Q:=λZ N=>Z= #[K4 (S ⟨O,0,none⟩),.chan (S bi),.chan (S bo),u3,u4,u5,u6,.chan (S bi),C4 true (J7 J8 a Y) true,.bool true,u10,u11,u12,u13,u14,u15]/\N.heap=v.heap) bh ⟨_,Try.func36⟩ Zo 0 (.cons ⟨_,R,R,Zn,R⟩ .nil) Zn YU YU f j (λtp=> ?_) ?_
  ·have Hc:=au (And.intro g s);clear f W j g k o s hu;unfold C4;go_wp2
   rfl
  ·rintro b0 x2 y2 v2 w2 F2 a2 b1 ⟨rfl,C⟩ f r;refine aa.aH f λw f=> ?_;refine aa.ah f λw f=> ?_;refine aa.go f YR (λ_=>bH (r.bool R)) λw f=> ?_;simp only[if_true];refine aa.dh f λw f=> ?_;refine aa.aV f λw f=> ?_;refine aa.ah f λw f=> ?_;have H:=g.heap C;refine aa.ej (Q:=λZ N=>Z= #[K4 (S ⟨O,0,none⟩),.chan (S bi),.chan (S bo),u3,u4,u5,J7 J8 a Y,.chan (S bi),C4 true (J7 J8 a Y) true,.bool true,J7 J8 a Y,u11,u12,u13,u14,u15]/\N.heap=v2.heap) bh ⟨_,Try.func36⟩ Zo Zn YU YU f r (λtp=> ?_) ?_
   ·have Hc:=au (And.intro g (And.intro s (And.intro C H)));clear f W j g k o s hu r C H;unfold C4;go_wp2
    rfl
   ·rintro b2 x3 y3 v3 w3 F3 a3 b3 ⟨rfl,T⟩ f a0;have a1:=H.heap T;refine aa.aC f λw f=> ?_;refine aa.ops (L:= [0,1,2,3]) (rest:= [4]) (ey:= #[_,_,_,_]) (Q:=λZ N=> ∃b b',Z= #[K4 (S ⟨O,0,none⟩),.chan (S bi),.chan (S bo),u3,u4,u5,J7 J8 a Y,.chan (S bi),C4 true (J7 J8 a Y) true,.bool true,J7 J8 a Y,.chan (S bo),K4 (S ⟨O,0,none⟩),J7 J8 a Y,J7 J8 b b',u15]/\aS (J7 J8 b b') (hU P n p aI X t)/\aF N O L n P p (oT P n p aI X (t + 1))) bh ⟨_,Try.func36⟩ Zo 0 (.cons ⟨_,R,R,Zn,R⟩ (.cons ⟨_,R,R,Zn,R⟩ (.cons ⟨_,R,R,Zn,R⟩ (.cons ⟨_,R,R,Zn,R⟩ .nil)))) Zn YU YU f a0 (λtp=> ?_) ?_
    ·have Hs:=au (Aj (w:=aK v3 tp 0) (show aF (aK v3 tp 0) O L n P p (oT P n p aI X t)from a1) s hn);clear f W j g k o s hu r C H a1 a0 T;unfold C4;go_wp2_with (go_at_call 18;refine (ae Hs).mono ?_;rintro e w6 ⟨b,b',rfl,hy,b5,_⟩)
     exact ⟨b,b',⟨R,R⟩,hy,b5⟩
    ·rintro b6 x4 y4 v4 w4 F4 b7 c2 ⟨b,b',rfl,hy,a7⟩ f a4;have V:=(a2.trans a3).trans b7;have c1:x7 ⟨y4,[]⟩ (.tmp 14)= J7 J8 b b':=(a4.ev (t:=14) R).KA;refine aa.Fq (i:=4) f R R R R (chan (V _ _ o) (a4.ev (t:=11) R)) a6 YS λw f=> ?_;refine aa.aH f λw f=> ?_;refine aa.cd f λw f=> ?_;refine aa.dw f λw f=> ?_;rw[<-M];exact ih (t + 1) b6 v4 F4 w y4 _ _ _ _ _ _ _ _ _ _ _ _ YP f (V _ _ k) (V _ _ o) a7 a4
theorem uZ {d:aU}(V:n<=16)(q: ∀t u,t<m->E.V A (B t) u->aS u (X t))(e: ∀t u,t<m->aS u (hU P n p aI X t)->E.V J (B t) u)(r:z A=S Xi)(s:z J=S Xo)
  (K: ∀x C M N,At E x C M i N->aa Try.prog E false oI Lg gU 0 z [] (.work false [] []) M (G (c.finish (.tuple #[])) l) N)(a:At E d v F i w)(f:d[bi]? =S (Xi,.chan))(g:d[bo]? =S (Xo,.chan))(b:aF v O L n P p aI)
  (T:aB d #[K4 (S ⟨O,0,none⟩),.chan (S bi),.chan (S bo)] y):
  aa Try.prog E false oI Lg gU 0 z [] (.work false [] (iX A J B m 0)) F (G (ak 36 (y ++ z7 13 U) [.code PL]) (c::l)) w:=by
 have j:aB d #[K4 (S ⟨O,0,none⟩),.chan (S bi),.chan (S bo),U,U,U,U,U,U,U,U,U,U,U,U,U] (y ++ z7 13 U):=T.ei 13;have k:PL=PL:=rfl;conv at k=>rhs;unfold PL;simp only[Try.f36]
 rw[k];refine aa.ah a λw a=> ?_;refine aa.ah a λw a=> ?_;refine aa.ej (Q:=λW C=>W= #[K4 (S ⟨O,0,none⟩),.chan (S bi),.chan (S bo),U,U,U,U,.chan (S bi),U,U,U,U,U,U,U,U]/\C.heap=v.heap) bh ⟨_,Try.func36⟩ Zo Zn YU YU a j (λtp=> ?_) ?_
 ·have Hc:=au b;clear a T j b f g;go_wp2
  rfl
 ·rintro D x2 Y Z w2 F2 o a0 ⟨rfl,H⟩ a I;refine aa.aV a λw a=> ?_;refine aa.dO a λw a=> ?_;exact Bh V q e r s K m 0 D Z F2 w Y _ _ _ _ _ _ _ _ _ _ _ _ YP a (o _ _ f) (o _ _ g) (b.heap H) I
end
noncomputable def PN:G0:=match Try.f38.body with | some c=>c | _=> .skip
noncomputable def uk:G0:=match Try.f38.body with | some (.seq (.seq _ (.block _ (.loop c))) _)=>c | _=> .skip
noncomputable def PX:G0:=match Try.f38.body with | some (.seq _ c)=>c | _=> .skip
def jV (a:Nat):Nat->Nat->List Ak
 | 0,_=> [.close a]
 | q + 1,t=> .send a t::jV a q (t + 1)
theorem aA.heap {v':World}(e:v'.heap=v.heap):aA v v':=⟨YS,λa u h=>by unfold w7 at h ⊢;grind⟩
section
variable {Lg:bC}{val:cH}{c:Frame}
theorem Bg (hm:m<=1000000)(b2: ∀t u,t<m->aS u (X t)->E.V n t u)(a0:z n=S O)
  (K: ∀a2 s F' w',At E a2 s F' val w'->aa Try.prog E false oI D gU 0 z [] (.work false [] []) F' (G (c.finish (.tuple #[])) l) w'):
  ∀ (q t:Nat)(ρ:aU)(v:World)(F:aq)(w:World)(y:Array Value)(u2 u3 u4 u5 u9 u10 u11 u12 u13 u14 u15:Value),t + q=m->At E ρ v F val w->ρ[J]? =S (O,.chan)->bj v (.slice e m A) m X->
   aB ρ #[.slice e m A,.chan (S J),u2,u3,u4,u5,.slice e m A,J9 K1 m,J9 K1 t,u9,u10,u11,u12,u13,u14,u15] y->
   aa Try.prog E false oI D gU 0 z [] (.work false [] (jV n q t)) F (G (ak 38 y [.code uk,.inLoop uk,.inBlock 0,.code PX]) (c::l)) w:=by
 intro q;induction q with
 | zero=>
  intro t ρ v F w y u2 u3 u4 u5 u9 u10 u11 u12 u13 u14 u15 hq a g r I;have b4: ¬ ((t:Int)<(m:Int)):=YP;have B:uk=uk:=rfl;conv at B=>rhs;unfold uk;simp only[Try.f38]
  rw[B];unfold jV;refine aa.ah a λw a=> ?_;refine aa.ej (Q:=λk s=>k= #[.slice e m A,.chan (S J),u2,u3,u4,u5,.slice e m A,J9 K1 m,J9 K1 t,.bool false,u10,u11,u12,u13,u14,u15]/\s.heap=v.heap) bh ⟨_,Try.func38⟩ Zo Zn YU YU a I (λZ=> ?_) ?_
  ·have Hc:=au r;clear a I r g;go_wp2
   rfl
  ·rintro a3 x2 y2 v2 w2 F2 W a4 ⟨rfl,f⟩ a o;refine aa.ah a λw a=> ?_;refine aa.go a YR (λ_=>bH (o.bool R)) λw a=> ?_;simp only[A8, ↓reduceIte];refine aa.go a YR (λ_=>fe R) λw a=> ?_;have e4:PX=PX:=rfl;conv at e4=>rhs;unfold PX;simp only[Try.f38]
   rw[e4];refine aa.aC a λw a=> ?_;refine aa.ops (L:= [0]) (rest:= [1]) (ey:= #[_]) (Q:=λk s=>k= #[.slice e m A,.chan (S J),u2,u3,u4,u5,.slice e m A,J9 K1 m,J9 K1 t,.bool false,u10,u11,u12,u13,u14,.chan (S J)]/\s.heap=v2.heap) bh ⟨_,Try.func38⟩ Zo 0 (.cons ⟨_,R,R,Zn,R⟩ (.nil)) Zn YU YU a o (λZ=> ?_) ?_
   ·have Hc:=au (And.intro r f);clear a I r g o f;go_wp2
    rfl
   ·rintro a5 x3 y3 v3 w3 F3 Y a6 ⟨rfl,j⟩ a C;refine aa.xq (i:=1) a R R R R ((C.ev (t:=15) R).tY (Y _ _ (W _ _ g))) a0 Zn λw a=> ?_;refine aa.aH a λw a=> ?_;refine aa.gQ a λw a=> ?_;refine aa.go a YR (λ_=>dT Try.func38 R) λw a=> ?_;grind
 | succ q ih=>
  intro t ρ v F w y u2 u3 u4 u5 u9 u10 u11 u12 u13 u14 u15 hq a g r I;have a7:t<m:=YP;have b5:(t:Int)<(m:Int):=YP;obtain ⟨T,M⟩: ∃T:Nat,T=t + 1:=⟨_,R⟩;have b6:IntKind.i64.wrap ((t:Int) + 1)=(T:Int):=Zr;obtain ⟨b,d,x,k,rfl,p,P⟩: ∃b d x k,e=S ⟨b,d,none⟩/\v.cell? ⟨b,d + t,none⟩=S (J7 J8 x k)/\aS (J7 J8 x k) (X t):=by obtain ⟨b7,c',b3,h2⟩:=id r;simp only[Value.slice.injEq]at b3;obtain ⟨rfl,_⟩:=b3;obtain ⟨b,d,u,h3,_,h5,h6⟩:=h2 t a7;obtain ⟨x,k,rfl,_⟩:=id h6;grind
  have B:uk=uk:=rfl;conv at B=>rhs;unfold uk;simp only[Try.f38]
  rw[B];unfold jV;refine aa.ah a λw a=> ?_;refine aa.ej (Q:=λk s=>k= #[K3 (S ⟨b,d,none⟩) m A,.chan (S J),u2,u3,u4,u5,K3 (S ⟨b,d,none⟩) m A,J9 K1 m,J9 K1 t,.bool true,u10,u11,u12,u13,u14,u15]/\s.heap=v.heap) bh ⟨_,Try.func38⟩ Zo Zn YU YU a I (λZ=> ?_) ?_
  ·have Hc:=au (And.intro r (And.intro p (And.intro P M)));clear a I r g p P M;go_wp2
   rfl
  ·rintro a3 x2 y2 v2 w2 F2 W a4 ⟨rfl,f⟩ a o;refine aa.ah a λw a=> ?_;refine aa.go a YR (λ_=>bH (o.bool R)) λw a=> ?_;simp only[if_true];refine aa.dh a λw a=> ?_;refine aa.ah a λw a=> ?_;refine aa.aV a λw a=> ?_;refine aa.ah a λw a=> ?_;refine aa.ej (Q:=λy' s=>y'= #[K3 (S ⟨b,d,none⟩) m A,.chan (S J),u2,u3,u4,J7 J8 x k,K3 (S ⟨b,d,none⟩) m A,J9 K1 m,J9 K1 t,.bool true,K4 (S ⟨b,d + t,none⟩),J7 J8 x k,u12,u13,u14,u15]/\s.heap=v2.heap) bh ⟨_,Try.func38⟩ Zo Zn YU YU a o (λZ=> ?_) ?_
   ·have b8:(aK v2 Z 0).cell? ⟨b,d + t,none⟩=S (J7 J8 x k):=(aA.heap f).2 _ _ p;have Hc:=au (And.intro r (And.intro p (And.intro P (And.intro M f))));clear a I r g p P M o f;go_wp2
    rfl
   ·rintro a5 x3 y3 v3 w3 F3 Y a6 ⟨rfl,j⟩ a C;refine aa.aC a λw a=> ?_;refine aa.ops (L:= [0,1]) (rest:= [2]) (ey:= #[_,_]) (Q:=λy' s=>y'= #[K3 (S ⟨b,d,none⟩) m A,.chan (S J),u2,u3,u4,J7 J8 x k,K3 (S ⟨b,d,none⟩) m A,J9 K1 m,J9 K1 t,.bool true,K4 (S ⟨b,d + t,none⟩),J7 J8 x k,.chan (S J),J7 J8 x k,u14,u15]/\s.heap=v3.heap) bh ⟨_,Try.func38⟩ Zo 0 (.cons ⟨_,R,R,Zn,R⟩ (.cons ⟨_,R,R,Zn,R⟩ (.nil))) Zn YU YU a C (λZ=> ?_) ?_
    ·have Hc:=au (And.intro r (And.intro p (And.intro P (And.intro M (And.intro f j)))));clear a I r g p P M o f j C;go_wp2
     rfl
    ·rintro b9 x4 y4 v4 w4 F4 a8 c1 ⟨rfl,H⟩ a N;have V:=(W.trans Y).trans a8;refine aa.Fq (i:=2) a R R R R ((N.ev (t:=12) R).tY (V _ _ g)) a0 (by rw[(N.ev (t:=13) R).KA];grind) λw a=> ?_;refine aa.aH a λw a=> ?_;refine aa.cd a λw a=> ?_;refine aa.ej (Q:=λy' s=>y'= #[K3 (S ⟨b,d,none⟩) m A,.chan (S J),u2,u3,u4,J7 J8 x k,K3 (S ⟨b,d,none⟩) m A,J9 K1 m,J9 K1 T,.bool true,K4 (S ⟨b,d + t,none⟩),J7 J8 x k,.chan (S J),J7 J8 x k,J9 K1 T,u15]/\s.heap=v4.heap) bh ⟨_,Try.func38⟩ Zo Zn YU YU a N (λZ=> ?_) ?_
     ·have Hc:=au (And.intro r (And.intro p (And.intro P (And.intro M (And.intro f (And.intro j H))))));clear a I r g p P M o f j C N H;go_wp2
      rfl
     ·rintro a9 x5 y5 v5 w5 F5 b0 c2 ⟨rfl,a1⟩ a b1;refine aa.dw a λw a=> ?_;rw[<-B];subst M;have hh:v5.heap=v.heap:=by rw[a1,H,j,f]
      exact ih (t + 1) a9 v5 F5 w y5 _ _ _ _ _ _ _ _ _ _ _ YP a (b0 _ _ (V _ _ g)) (r.av (aA.heap hh)) b1
theorem DH {j:aU}(I:m<=1000000)(b: ∀t u,t<m->aS u (X t)->E.V n t u)(k:z n=S L)
  (K: ∀o p C D,At E o p C i D->aa Try.prog E false oI Lg gU 0 z [] (.work false [] []) C (G (c.finish (.tuple #[])) l) D)(a:At E j v F i w)(d:j[J]? =S (L,.chan))(q:bj v (.slice e m A) m X)
  (H:aB j #[.slice e m A,.chan (S J)] y):
  aa Try.prog E false oI Lg gU 0 z [] (.work false [] (jV n m 0)) F (G (ak 38 (y ++ z7 14 U) [.code PN]) (c::l)) w:=by
 have f:aB j #[.slice e m A,.chan (S J),U,U,U,U,U,U,U,U,U,U,U,U,U,U] (y ++ z7 14 U):=H.ei 14;have g:PN=PN:=rfl;conv at g=>rhs;unfold PN;simp only[Try.f38]
 rw[g];refine aa.ah a λw a=> ?_;refine aa.ah a λw a=> ?_;refine aa.ej (Q:=λM p=>M= #[.slice e m A,.chan (S J),U,U,U,U,.slice e m A,J9 K1 m,J9 K1 (0:Nat),U,U,U,U,U,U,U]/\p.heap=v.heap) bh ⟨_,Try.func38⟩ Zo Zn YU YU a f (λV=> ?_) ?_
 ·have W:=au q;clear a H f q d;go_wp2
  rfl
 ·rintro r Y N O Z P s T ⟨rfl,x⟩ a B;refine aa.aV a λw a=> ?_;refine aa.dO a λw a=> ?_;exact Bg I b k K m 0 r O P w N _ _ _ _ _ _ _ _ _ _ _ YP a (s _ _ d) (q.av (aA.heap x)) B
end
def zP (J:Nat):Nat->Nat->List Ak
 | 0,_=> [.over J]
 | q + 1,t=> .recv J t::zP J q (t + 1)
theorem wI {J p:Nat}(a:1<=p)(b:p<=J): ∀m k,oC J p m k=iX (p - 1) p (λt=>t) m k
 | 0,k=>by simp[oC,IF,CC,iX,a,b]
 | m + 1,k=>by simp[oC,IN,CG,iX,a,b,wI a b m (k + 1)]
theorem wF {J:Nat}: ∀m k,oC J 0 m k=jV 0 m k
 | 0,k=>YV
 | m + 1,k=>by simp[oC,IN,CG,jV,wF m (k + 1)]
theorem wH {J:Nat}: ∀m k,oC J (J + 1) m k=zP J m k
 | 0,k=>by simp[oC,IF,CC,zP]
 | m + 1,k=>by simp[oC,IN,CG,zP,wH m (k + 1)]
def wS (m:Nat):Nat->Nat->List (List Ak)
 | 0,_=> [jV 0 m 0]
 | q + 1,j=>iX j (j + 1) (λt=>t) m 0::wS m q (j + 1)
theorem tl (m:Nat): ∀q j i:Nat,(wS m q j)[i]? =if i<q then some (iX (j + i) (j + i + 1) (λt=>t) m 0)else if i=q then some (jV 0 m 0)else none
 | 0,j,i=>by
  cases i with
  | zero=>simp[wS]
  | succ i=>simp[wS]
 | q + 1,j,i=>by
  cases i with
  | zero=>simp[wS]
  | succ i=>simp only[wS,E2,tl m q (j + 1) i];grind
theorem zV (m:Nat): ∀q j:Nat,(wS m q j).length=q + 1
 | 0,_=>rfl
 | q + 1,j=>by simp[wS,zV m q (j + 1)]
def qR (J n p:Nat):Nat:=if p=0 then n + J else if p<=J then n + (p - 1)else if p=J + 1 then 0 else n + p
theorem EK (J m n:Nat)(k:0<n):eG (oz n (.work false (wS m J 0) (zP J m 0)),λ_=>False)/\One (oz n (.work false (wS m J 0) (zP J m 0)))/\iA (oz n (.work false (wS m J 0) (zP J m 0))):=by
 have c: ∀p q,qR J n p=qR J n q->p=q:=by
  intro p q h;unfold qR at h;repeat' split at h
  all_goals omega
 have d:Jp (qR J n) (gJ J m 0) (oz n (.work false (wS m J 0) (zP J m 0))):=by
  constructor
  ·intro p;unfold oz gJ qR;simp only[Ph.nR,Ph.db,tl];by_cases b:p=0
   ·subst b;have e: ¬ (n + J=0):=YP;have f: ¬ (n + J<n):=YP;simp[f,wF,show ¬ (n=0/\J=0) by omega]
   ·by_cases a:p<=J
    ·have f: ¬ (n + (p - 1)<n):=by omega
     simp[b,a,f,show ¬ (n=0/\p - 1=0) by omega,show p - 1<J by omega,show p<=J + 1 by omega,wI (show 1<=p by omega) a,show p - 1 + 1=p by omega]
    ·by_cases j:p=J + 1
     ·subst j;simp[wH,a]
     grind
  ·intro i g;unfold oz;simp only[Ph.nR,Ph.db,tl];have b:i≠0:=λe=>g (J + 1) (by unfold qR;grind);rw[if_neg b];by_cases a:i<n
   ·grind
   ·rw[if_neg a];by_cases j:i - n<J
    ·exact absurd (show i=qR J n (i - n + 1) by unfold qR;grind) (g _)
    ·by_cases l:i - n=J
     ·exact absurd (show i=qR J n 0 by unfold qR;rw[if_pos R];omega) (g _)
     grind
 exact ⟨eG.label c (rT m 0 λ_=>False) _ d,(EJ J m 0).label d,(BS J m 0).label d⟩
def Yp (b:Nat->Nat)(d:Nat->C2)(a:Nat->Nat->dM)(X:Nat->C2):Nat->Nat->C2
 | 0=>X
 | c + 1=>hU (d c) (b c) (a c) aI (Yp b d a X c)
def Vp (b:Nat->Nat)(d:Nat->C2)(a:Nat->Nat->dM)(X:Nat->C2)(c k:Nat)(u:x9):Prop:=aS u (Yp b d a X c k)
def mj (a:Nat->Nat):Nat->Nat->List Nat
 | 0,_=> []
 | n + 1,t=>a t::mj a n (t + 1)
theorem Am {a:Nat->Nat}: ∀ {n t f:Nat},f∈mj a n t-> ∃s,t<=s/\s<t + n/\f=a s
 | 0,_,_,h=>by cases h
 | n + 1,t,f,h=>by
  rcases List.mem_cons.1 h with h | h
  ·grind
  ·obtain ⟨s,b,c,d⟩:=Am h;grind
def lX (i:Nat):List Nat->Nat->List Nat
 | [],_=> []
 | f::a,q=>if f=i then q::lX i a (q + 1)else lX i a (q + 1)
theorem qf {i:Nat}{nm:Nat->Nat}: ∀ (a:List Nat)(q k:Nat),(∀j x,(lX i a q)[j]? =S x->nm (k + j)=x)->rU i a q=iX (2 * i) (2 * i + 1) nm (lX i a q).length k
 | [],q,k,_=>rfl
 | f::a,q,k,h=>by
  unfold rU lX;unfold lX at h;by_cases b:f=i
  ·rw[if_pos b]at h ⊢;rw[if_pos b];have c:=h 0 q R;rw[Nat.add_zero]at c;rw[List.length_cons,iX,c,qf a (q + 1) (k + 1) λj x d=>by rw[show k + 1 + j=k + (j + 1) by omega];exact h (j + 1) x d]
  ·rw[if_neg b]at h ⊢;rw[if_neg b];exact qf a (q + 1) k h
def nP (tf:Nat->Nat)(i:Nat):Nat->Nat
 | 0=>0
 | t + 1=>nP tf i t + if tf t=i then 1 else 0
theorem tr {a:Nat->Nat}{i:Nat}: ∀ {n t k s:Nat},(lX i (mj a n t) t)[k]? =S s->nP a i s=nP a i t + k/\a s=i
 | 0,t,k,s,h=>by simp[mj,lX]at h
 | n + 1,t,k,s,h=>by
  unfold mj lX at h;by_cases c:a t=i
  ·rw[if_pos c]at h;cases k with
   | zero=>grind
   | succ k=>
    obtain ⟨d,b⟩:=tr (k:=k) h;refine ⟨?_,b⟩;have e:nP a i (t + 1)=nP a i t + if a t=i then 1 else 0:=rfl
    grind
  ·rw[if_neg c]at h;obtain ⟨d,b⟩:=tr h;refine ⟨?_,b⟩;have e:nP a i (t + 1)=nP a i t + if a t=i then 1 else 0:=rfl
   grind
theorem zX {tf:Nat->Nat}{i:Nat}: ∀ {n t s:Nat},t<=s->s<t + n->tf s=i->(lX i (mj tf n t) t)[nP tf i s - nP tf i t]? =S s/\nP tf i t<=nP tf i s
 | 0,t,s,a,b,_=>YP
 | n + 1,t,s,a,b,c=>by
  unfold mj lX;by_cases d:s=t
  ·grind
  ·obtain ⟨f,g⟩:=zX (n:=n) (t:=t + 1) (s:=s) YP YP c;have e:nP tf i (t + 1)=nP tf i t + if tf t=i then 1 else 0:=rfl
   grind
def vT (J:Nat)(a:List Nat):Nat->Nat->List (List Ak)
 | 0,_=> [sL J a 0]
 | k + 1,j=>rU j a 0::vT J a k (j + 1)
theorem tq (J:Nat)(a:List Nat): ∀q j i:Nat,(vT J a q j)[i]? =if i<q then some (rU (j + i) a 0)else if i=q then some (sL J a 0)else none
 | 0,j,i=>by
  cases i with
  | zero=>simp[vT]
  | succ i=>simp[vT]
 | q + 1,j,i=>by
  cases i with
  | zero=>simp[vT]
  | succ i=>simp only[vT,E2,tq J a q (j + 1) i];grind
theorem zW (J:Nat)(a:List Nat): ∀q j:Nat,(vT J a q j).length=q + 1
 | 0,_=>rfl
 | q + 1,j=>by simp[vT,zW J a q (j + 1)]
def yd (n p:Nat):Nat:=if p=0 then 0 else n + (p - 1)
theorem EN (J:Nat)(a:List Nat)(n:Nat)(k:0<n)(b: ∀f∈a,f<J):eG (oz n (.work false (vT J a J 0) (vC a 0)),λ_=>False)/\One (oz n (.work false (vT J a J 0) (vC a 0)))/\iA (oz n (.work false (vT J a J 0) (vC a 0))):=by
 have c: ∀p q,yd n p=yd n q->p=q:=by
  intro p q h;unfold yd at h;repeat' split at h
  all_goals omega
 have d:Jp (yd n) (ep J a 0) (oz n (.work false (vT J a J 0) (vC a 0))):=by
  constructor
  ·intro p;unfold oz ep yd;simp only[Ph.nR,Ph.db,tq];grind
  ·intro i g;unfold oz;simp only[Ph.nR,Ph.db,tq];have j:i≠0:=λe=>g 0 (by assumption);rw[if_neg j];by_cases l:i<n
   ·grind
   ·exact absurd (show i=yd n (i - n + 1) by unfold yd;grind) (g _)
 exact ⟨eG.label c (rV a 0 b λ_=>False) _ d,(EM a 0).label d,(BU a 0).label d⟩
def zF (q:Nat)(tf:Nat->Nat)(X:Nat->C2)(i k:Nat):C2:=X ((lX i (mj tf q 0) 0).getD k 0)
def Vy (q:Nat)(b:Nat->Nat)(d:Nat->Nat)(e:Nat->C2)(a:Nat->Nat->dM)(X:Nat->C2)(c t:Nat)(u:x9):Prop:=
 if c % 2=0 then aS u (X t)else ∃k,(lX (c / 2) (mj b q 0) 0)[k]? =S t/\aS u (hU (e (c / 2)) (d (c / 2)) (a (c / 2)) aI (zF q b X (c / 2)) k)
def Zy (q:Nat)(a:Nat->Nat)(c:Nat->Nat)(d:Nat->C2)(b:Nat->Nat->dM)(X:Nat->C2)(t:Nat):C2:=hU (d (a t)) (c (a t)) (b (a t)) aI (zF q a X (a t)) (nP a (a t) t)
section
variable {tf ns:Nat->Nat}{Gn:Nat->C2}{i t:Nat}
theorem Jr:Vy n B ns Gn g X (2 * i) m u↔aS u (X m):=by unfold Vy;simp
theorem CU:Vy n B ns Gn g X (2 * m + 1) A u↔ ∃k,(lX m (mj B n 0) 0)[k]? =S A/\aS u (hU (Gn m) (ns m) (g m) aI (zF n B X m) k):=by unfold Vy;grind
theorem Kf (h:Vy n B ns Gn g X (2 * B m + 1) m u):aS u (Zy n B ns Gn g X m):=by obtain ⟨k,a,b⟩:=CU.1 h;have:=(tr a).1;unfold Zy;rw[this];simpa[nP]using b
theorem Ea (h:t<m):zF m tf X (tf t) (nP tf (tf t) t)=X t:=by have:=(zX (tf:=tf) (i:=tf t) (n:=m) (t:=0) (s:=t) (J5 _) YP R).1;simp only[nP,Nat.sub_zero]at this;unfold zF;grind
end
section
variable {P:Program}{m:Bool}{d:Nat}{r:ca}{lg:List bC}{ph:Ph}{ρ:aU}{val:cH}{x:Array Value}{i:Nat}{rest:List Nat}{cs:Nat->Bool}
def LQ (d:Option Nat)(u:x9)(x:Array x9):Array x9:=match d with | some d=>x.setIfInBounds d u | none=>x
theorem aa.fP {R:x9->World->Prop}(I:sG P cs)(J: ∃f,P.funcs[q]? =S f)(t: ¬ph.late)(M:h[i]? =S o)(C:o.guard=none)(g:jM P cs o.op=true)(N: ∀u v e d,R u v->R u (aK v e d))(z: ∀u v e d,R u (aK v e d)->R u v)(A:At E ρ v F val w)(O:aB ρ x y)
  (T: ∀e,bD P o ⟨x,[]⟩ (aK v e 0) R)(K: ∀c B j w' n u,Ext ρ c->F.le n->R u j->At E c j n val w'->aB c (LQ o.dst u x) B->aa P E m b D a d r lg ph n (G (ak q B (.inRegion h rest::k)) l) w'):
  aa P E m b D a d r lg ph F (G (ak q y (.inRegion h (i::rest)::k)) l) w:=by
 refine aa.ops (L:= [i]) (rest:=rest) (ey:= #[o]) (Q:=λH j=> ∃u,H=LQ o.dst u x/\R u j) I J t 0 (.cons ⟨o,rfl,M,g,C⟩ .nil) (by simp[ct,g]) (λ_ _ _ _ ⟨u,p,s⟩=>⟨u,p,N _ _ _ _ s⟩) (λ_ _ _ _ ⟨u,p,s⟩=>⟨u,p,z _ _ _ _ s⟩) A O (λe=> ?_) λc H B j w' n p s ⟨u,W,X⟩ Y Z=> ?_
 ·refine wp_region ?_;show wpOps P #[o] _ [0] _ _;rw[wpOps_cons];refine kQ (o:=o) rfl C (T e) λu w' V=> ?_;refine ⟨rfl,?_,u,?_,V⟩
  ·cases o.dst<;>rfl
  ·unfold LQ;cases o.dst<;>rfl
 grind
theorem kH {d:Nat}{a:B4}(e:h[i]? =S o)(f:o.guard=none)(g:o.dst=S d)(c:o.op= .move a\/o.op= .assign a):
  J6 P H (G (ak q y (.inRegion h (i::rest)::k)) l) w= .go (G (ak q (y.setIfInBounds d (x7 ⟨y,[]⟩ a)) (.inRegion h rest::k)) l) w #[]:=by
 have j:A7 o (J2 h (D8 y []).tmps)=true:=by unfold A7;rw[f]
 have m:(w8 (D8 y []).eval o).run P w= .ok (.value (x7 ⟨y,[]⟩ a)) w:=by unfold w8;rcases c with c | c<;>rw[c]<;>simp
 have n:(w8 (D8 y []).eval o).events P w #[]= #[]:=by unfold w8;rcases c with c | c<;>rw[c]<;>simp
 have:=D5 (P:=P) (main:=H) (b:=ak q y []) (a:=⟨y,[]⟩) (k:=k) (cs:=l) (rest:=rest) e j (by simp[ak]) m;have p:C8 P (ak q y []).fn ⟨y,[]⟩ o w= #[]:=by unfold C8;rw[n];exact H9 _ _
 rw[p,g]at this;exact this
theorem qi {d:Nat}{f:FuncId}{e:Array B4}(g:h[i]? =S o)(j:o.guard=none)(m:o.dst=S d)(c:o.op= .makeFunc (.func f) #[] e):
  J6 P H (G (ak q y (.inRegion h (i::rest)::k)) l) w= .go (G (ak q (y.setIfInBounds d (.func (.func f) #[] (e.map (x7 ⟨y,[]⟩)))) (.inRegion h rest::k)) l) w #[]:=by
 have n:A7 o (J2 h (D8 y []).tmps)=true:=by unfold A7;rw[j]
 have p:(w8 (D8 y []).eval o).run P w= .ok (.value (.func (.func f) #[] (e.map (x7 ⟨y,[]⟩)))) w:=by unfold w8;rw[c];simp[I6]
 have r:(w8 (D8 y []).eval o).events P w #[]= #[]:=by unfold w8;rw[c];simp[I6]
 have:=D5 (P:=P) (main:=H) (b:=ak q y []) (a:=⟨y,[]⟩) (k:=k) (cs:=l) (rest:=rest) g n (by simp[ak]) p;have s:C8 P (ak q y []).fn ⟨y,[]⟩ o w= #[]:=by unfold C8;rw[r];exact H9 _ _
 rw[s,m]at this;exact this
end
theorem rf(d:VR c u (f x))(e:VR c Y (f Z)):aB c #[u,Y] ((#[x,Z]:Array B4).map f):=by rw[show (#[x,Z]:Array B4).map f= #[f x,f Z] by simp];refine ⟨R,λi a b g h=> ?_⟩;grind
theorem FW{e:x9}{d:B4}(h:VR c u (f x))(j:VR c Y (f Z))(k:VR c e (f d)):aB c #[u,Y,e] ((#[x,Z,d]:Array B4).map f):=by
 rw[show (#[x,Z,d]:Array B4).map f= #[f x,f Z,f d] by simp];refine ⟨R,λi a b g l=> ?_⟩;rcases i with _ | _ | _ | i
 ·grind
 ·grind
 ·grind
 ·cases g
theorem pT(h:y.size=n): ∃u:Nat->Value,y=((I4 n).map u).toArray/\ ∀ (i:Nat) v,y[i]? =S v->u i=v:=by
 refine ⟨λi=>y.getD i U,?_,λi v a=>by show y.getD i U=v;rw[Array.getD_eq_getD_getElem?,a];rfl⟩;apply Array.ext
 ·simp[h]
 simp_all
theorem ab{d:Nat}(h:y[n]? =S Y)(a:d≠n):(y.setIfInBounds d u)[n]? =S Y:=YS
theorem aE{d:Nat}(h:y.size=n)(a:d<n):(y.setIfInBounds d u)[d]? =S u:=YS
structure mq (v:World)(fb n:Nat)(gr gi:Nat->Nat)(sv:Nat->x9)(ns:Nat->Nat)(sec:Nat->Nat->dM)(Gn:Nat->C2):Prop where
 row: ∀i,i<n->v.rangeAt fb (i * 2) [J7 J8 (gr i) (gi i),sv i]
 fin: ∀i,i<n->cY (J7 J8 (gr i) (gi i))
 gain: ∀i,i<n->aS (J7 J8 (gr i) (gi i)) (Gn i)
 secs: ∀i,i<n->bn v (sv i) (ns i) (sec i)
 few: ∀i,i<n->ns i<=16
theorem mq.av {v c:World}{d n:Nat}{e f:Nat->Nat}{g:Nat->x9}{l:Nat->Nat}{a:Nat->Nat->dM}{m:Nat->C2}(h:mq v d n e f g l a m)(k:aA v c):mq c d n e f g l a m:=
 ⟨λi b j u o=>k.2 _ _ (h.row i b j u o),h.fin,h.gain,λi b=>(h.secs i b).av k,h.few⟩
structure AR (w wr:World)(A k:Nat)(ns:Nat->Nat)(sec:Nat->Nat->dM)(Gn:Nat->C2)(B L:Nat->Nat):Prop where
 low:Below w.heap.size w wr
 lt:w.heap.size<=A/\A<wr.heap.size
 cell: ∀i,i<k->wr.cell? ⟨A,i,none⟩=S (K4 (S ⟨B i,0,none⟩))
 dp: ∀i,i<k->aF wr (B i) (L i) (ns i) (Gn i) (sec i) aI
 new: ∀i,i<k->A<B i/\A<L i
 lN: ∀i j,i<k->j<k->i≠j->L i≠L j
 mH: ∀i j,i<k->j<k->L i≠B j
theorem Eg:(Try.prog.info? 50).map (λi=>(i.zero,i.size,i.bytes))=S (S (.pointer none),1,8):=Zn
theorem aF.setCell {w:World}{B L n:Nat}{G:C2}{b:Nat->dM}{d:Nat->C2×C2}(h:aF w B L n G b d){a:I8}(p:a.block≠B)(e:a.block≠L)(u:x9):aF (w.setCell a u) B L n G b d:=by obtain ⟨g,f,c,i,k,l,m,q,r⟩:=h;exact ⟨g,f,c,λj x o=>by rw[gn YS];exact i j x o,k,l.setCell e _,m,by simp_all,by simp_all⟩
theorem Below.setCell {n:Nat}{w c:World}(h:Below n w c){a:I8}(e:n<=a.block)(u:x9):Below n w (c.setCell a u):=by refine ⟨h.os,h.tape,h.output,by simpa[G3]using h.size,λb d=> ?_⟩;rw[heap_set,if_neg YP];exact h.block b d
theorem qm {c:Nat}{Q:Nat->Nat}{Z:Nat->x9}{G:Nat->Nat}(T:mq w m n B Q Z G g X)(hn:n<=1000):
  C1 Try.prog 33 #[K3 (S ⟨m,0,none⟩) n c] w λe w'=> ∃A v L,e= .returned (.tuple #[K3 (S ⟨A,0,none⟩) n n,J9 K1 0])/\AR w w' A n G g X v L:=by
 obtain ⟨i0,V,x,y,z⟩:=B1 Eg;have HF:=au T;clear T;go_enter Try.func33,Try.ntmps33
 go_wp2_with (first
  | (refine wpList_make_full _ rfl _ _ 90 rfl w.heap.size 50 i0 (.pointer none) 1 Try.underlying90 V x y .i64 .i64 _ _ n rfl rfl rfl rfl (by rw[z];omega) Zp (Nat.le_refl _) ?_;intro w1 s K))
 obtain ⟨C,M⟩:=dS s;rw[Nat.mul_one]at C;clear s V x y z;go_loopw [15,5] (λi ee wr=> ∃k:Nat,k<=n/\i= J9 K1 k/\ee= J9 K1 0/\wr.there w.heap.size 0 n/\ ∃v L,AR w wr w.heap.size k G g X v L) (λi _ _=>n - (intOf i).toNat)
 case atStart=>exact ⟨0,Nat.zero_le _,R,R,C,λ_=>0,λ_=>0,⟨fJ K,⟨Nat.le_refl _,M⟩,λi h=>YP,λi h=>YP,λi h=>YP,λi j h=>YP,λi j h=>YP⟩⟩
 case round=>
  obtain ⟨k,hk,rfl,rfl,d,v,L,a⟩:=hrel;by_cases b:k<n
  ·have W:(k:Int)<(n:Int):=by omega
   have f:=(ae HF).av (ar.ba a.low (Nat.le_refl _)).av;have l0:wr.cell? ⟨m,k * 2,none⟩=S (J7 J8 (B k) (Q k)):=f.row k b 0 _ R;obtain ⟨ad,cs,u,_⟩:=id (f.secs k b);have l1:wr.cell? ⟨m,k * 2 + 1,none⟩=S (.slice ad (G k) cs):=by have:=f.row k b 1 _ R;rw[u]at this;exact this
   have p:=f.secs k b;rw[u]at p;have Hn:=au (λ(H:World)(h2:aA wr H)=>Ey (f.fin k b) (f.gain k b) (p.av h2) (f.few k b));have N:=au (And.intro d a);have D:=a.lt.2;have E:=a.low.size;clear f p d a u;have a0:=aW;go_wp2_with fail
   refine (ae Hn _ (ar.alloc _ _).av).mono ?_;rintro e H ⟨Bk,Lk,rfl,I,J,q,l⟩;obtain ⟨d,a⟩:=ae N;have r:=((G5 _ _).alloc (Nat.le_refl _) _).trans (l.mono YR);have o:=bw d (di r none) D YR;have F:(H.cell? ⟨w.heap.size,k,none⟩).isSome=true:=by have:=(o k b).1;rwa[Nat.zero_add]at this
   have a1:H.frozen? ⟨w.heap.size,k,none⟩=false:=by have:=(o k b).2;rwa[Nat.zero_add]at this
   obtain ⟨uo,O⟩:=A0.1 F;rw[pr]at I J;have H2:=au (And.intro d (And.intro a (And.intro q (And.intro r (And.intro o (And.intro I J))))));clear d a q l r o F I J;go_wp2
   go_roundw
   case rel=>
    obtain ⟨d,a,q,l,o,I,J⟩:=ae H2;have Y:=l.size;refine ⟨k + 1,YP,by go_num,R,dK o _ _,λi=>if i=k then Bk else v i,λi=>if i=k then Lk else L i,⟨?_,⟨Nat.le_refl _,by simp[World.setCell];omega⟩,λi h=> ?_,λi h=> ?_,λi h=> ?_,λi j h h' P=> ?_,λi j h h'=> ?_⟩⟩
    ·exact Below.setCell (a.low.trans (l.mono E)) (Nat.le_refl _) _
    ·by_cases e:i=k
     ·subst e;rw[if_pos R];exact iV O
     ·rw[if_neg e,gn YR,l.cell (by exact D)];exact a.cell i YP
    ·by_cases e:i=k
     ·subst e;rw[if_pos R,if_pos R];exact q.setCell YS YS _
     ·rw[if_neg e,if_neg e];have:=a.new i YP;exact ((a.dp i YP).below l).setCell YS YS _
    ·by_cases e:i=k
     ·grind
     ·rw[if_neg e,if_neg e];exact a.new i YP
    ·by_cases e:i=k<;>by_cases t:j=k
     ·omega
     ·rw[if_pos e,if_neg t];have:=(a.dp j YP).lt.2.1;omega
     ·rw[if_neg e,if_pos t];have:=(a.dp i YP).lt.2.1;omega
     ·rw[if_neg e,if_neg t];exact a.lN i j YP YP P
    ·by_cases e:i=k<;>by_cases t:j=k
     ·rw[if_pos e,if_pos t];exact q.lt.2.2.symm
     ·rw[if_pos e,if_neg t];have:=(a.dp j YP).lt.1;omega
     ·rw[if_neg e,if_pos t];have:=(a.dp i YP).lt.2.1;omega
     ·rw[if_neg e,if_neg t];exact a.mH i j YP YP
   case measure=>simp[intOf];omega
  ·have:k=n:=by omega
   subst this;have N:=au a;clear a d;go_wp2
   go_ret2
   exact ⟨w.heap.size,v,L,R,ae N⟩
theorem ay{t:Nat}(h:y[t]? =S u):x7 ⟨y,[]⟩ (.tmp t)=u:=by simp[x7,h]
theorem ar.heap {v':World}(e:v'.heap=v.heap):ar v v':=⟨YS,λb _=>by rw[e]⟩
theorem ar.push{o:Obj}(e:w.heap=v.heap.push o):ar v w:=⟨YS,λb a=>YS⟩
theorem ar.refl (v:World):ar v v:=⟨A2 _,λ_ _=>rfl⟩
section
variable {R:Value->World->Prop}
theorem jj(a:o.op= .assign x)(b:M.eval x=u)(h:R u w):bD Try.prog o M w R:= .inl ⟨u,w,by simp[w8,a,b],h⟩
theorem aL {r:x9}{w':World}(a:(w8 M.eval o).run Try.prog w= .ok (.value r) w')(h:R r w'):bD Try.prog o M w R:= .inl ⟨r,w',a,h⟩
theorem ij(a:(w8 M.eval o).run Try.prog w= .ok .skip v)(h:R U v):bD Try.prog o M w R:= .inr (.inl ⟨v,a,h⟩)
end
theorem JW{a b:Int}(c:o.op= .binOp .lss 3 x Z 3)(d:f x= J9 K1 a)(e:f Z= J9 K1 b):(w8 f o).run Try.prog w= .ok (.value (.bool (decide (a<b)))) w:=by unfold w8;simp only[c,d,e];go_simp
theorem Gi{a b:Int}(c:o.op= .binOp .lss 3 x Z 3)(d:f x= J9 K1 a)(e:f Z= J9 K1 b)(h:a<b):(w8 f o).run Try.prog w= .ok (.value (.bool true)) w:=by rw[JW c d e,decide_eq_true h]
theorem MC{a b:Int}(c:o.op= .binOp .lss 3 x Z 3)(d:f x= J9 K1 a)(e:f Z= J9 K1 b)(h: ¬a<b):(w8 f o).run Try.prog w= .ok (.value (.bool false)) w:=by rw[JW c d e,decide_eq_false h]
theorem PH(a:o.op= .binOp .add 3 x (.const (J9 K1 1)) 3)(b:f x= J9 K1 n)(c:f (.const (J9 K1 1))= J9 K1 1)(d:n<4611686018427387904):(w8 f o).run Try.prog w= .ok (.value (J9 K1 ((n + 1:Nat):Int))) w:=by have e:IntKind.i64.wrap ((n:Int) + 1)=((n + 1:Nat):Int):=Zr;unfold w8;simp only[a,b,c];go_simp
theorem gS(a:o.op= .load t x)(b:f x= .pointer (S Q))(c:(C5 t (.pointer (S Q))).run Try.prog w= .ok u w):(w8 f o).run Try.prog w= .ok (.value u) w:=by unfold w8;simp[a,b,c]
theorem Gh(a:o.op= .indexAddr 90 x Z)(b:f x= K3 (S ⟨m,0,none⟩) n A)(c:f Z= J9 K1 J)(h:J<n)(d:n<=1000):(w8 f o).run Try.prog w= .ok (.value (K4 (S ⟨m,J,none⟩))) w:=by have e:(J:Int)<(n:Int):=YP;unfold w8;simp only[a,b,c];go_simp
theorem ll(a:o.op= .alloc t)(b:(Try.prog.info? t).bind (·.zero)=some u):(w8 f o).run Try.prog w= .ok (.value (K4 (some ⟨w.heap.size,0,none⟩))) (w.alloc (.cells u.cells t)):=by
 cases h:Try.prog.info? t with
 | none=>grind
 | some i=>rw[h]at b;unfold w8;simp[a,Instr.alloc,J1,J4,h,show i.zero=some u from b,newVar,newRow,newObj];rfl
theorem zL{u:Option I8}(h:w.cell? Q=S (.pointer u)):(C5 50 (.pointer (S Q))).run Try.prog w= .ok (.pointer u) w:=Zq
theorem zJ{u:Option Nat}(h:w.cell? Q=S (.chan u)):(C5 102 (.pointer (S Q))).run Try.prog w= .ok (.chan u) w:=Zq
theorem nY{u:Option Nat}(a:o.op= .store 102 x Z)(b:f x= .pointer (S Q))(c:f Z= .chan u)(d:w.cell? Q=S Y)(e:w.frozen? Q=false):(w8 f o).run Try.prog w= .ok .skip (w.setCell Q (.chan u)):=by unfold w8;simp only[a,b,c];go_simp
theorem Cv(a:o.op= .store 50 x Z)(b:f x= .pointer (S Q))(c:f Z= .pointer e)(d:w.cell? Q=S u)(g:w.frozen? Q=false):(w8 f o).run Try.prog w= .ok .skip (w.setCell Q (.pointer e)):=by unfold w8;simp only[a,b,c];go_simp
theorem aF.mv {a:World}(h:aF v m L n P p C)(k: ∀j u,v.cell? ⟨m,j,none⟩=S u->a.cell? ⟨m,j,none⟩=S u)(e:0<n->a.heap[L]? =v.heap[L]?)(K:v.heap.size<=a.heap.size):aF a m L n P p C:=by
 have f:0<n-> ∀j,a.cell? ⟨L,j,none⟩=v.cell? ⟨L,j,none⟩:=λh j=>z6 (w:=v) (e h);have l:0<n-> ∀j,a.frozen? ⟨L,j,none⟩=v.frozen? ⟨L,j,none⟩:=λh j=>by unfold A6;rw[e h]
 obtain ⟨g,o,b,r,s,⟨t,c⟩,y,M,N⟩:=h;refine ⟨g,o,b,λj x d=>k _ _ (r j x d),s,⟨λj z=>by rw[f YP,l YP];exact t j z,λi A=> ?_⟩,y,YP,YP⟩;obtain ⟨B,D,E,F,G,H,q,I,J⟩:=c i A;exact ⟨B,D,E,F,G,H,q,λj x d=>by rw[f YP];exact I j x d,J⟩
def dV (N:Nat)(v a:World):Prop:=v.heap.size<=a.heap.size/\(∀b,b<N->a.heap[b]? =v.heap[b]?)/\Ty v a
theorem dV.cell {N:Nat}{b:World}(h:dV N v b){a:I8}(c:a.block<N)(d:v.cell? a=S u):b.cell? a=S u:=by rw[z6 (w:=v) (h.2.1 _ c)];exact d
theorem dV.of{v':World}(h:ar v v')(a:n<=v.heap.size):dV n v v':=⟨h.1,λb c=>h.2 b YP,Ty.low h⟩
structure PS (v0:World)(N1 n A:Nat)(ns B L:Nat->Nat):Prop where
 Sk:v0.heap.size<=N1
 OP: ∀a u,v0.cell? a=S u-> ∀i,i<n->0<ns i->a.block≠L i
 JE: ∀i,i<n->L i<N1/\B i<N1
 aN:A<N1
 ov: ∀i,i<n->A≠L i
 BR: ∀i k,i<n->k<n->B k≠L i
 inj: ∀i k,i<n->k<n->i≠k->L i≠L k
structure gy (E:Env)(mg:aU)(v0:World)(n A:Nat)(ns:Nat->Nat)(Gn:Nat->C2)(sec:Nat->Nat->dM)(B L Lr:Nat->Nat)(bG:Nat)(j:Nat)(ρ:aU)(v:World):Prop where
 wx:Wx mg ρ
 ty:Ty v0 v
 old:aA v0 v
 Gz:ρ[bG]? =S (E.Wg,.cells)
 works: ∀i,i<n->v.cell? ⟨A,i,none⟩=S (K4 (S ⟨B i,0,none⟩))
 dp: ∀i,j<=i->i<n->aF v (B i) (L i) (ns i) (Gn i) (sec i) aI
 links: ∀i,i<n->ρ[L i]? =S (Lr i,.cells)
def kT (a b:Nat->Nat)(n j x:Nat):Prop:= ∃i,j<=i/\i<n/\0<a i/\x=b i
section
variable {v0:World}{ns:Nat->Nat}{Gn:Nat->C2}{L Lr:Nat->Nat}{bG:Nat}{j:Nat}{ρ ρ':aU}{v':World}
theorem gy.low (e:PS w m n A ns B L)(f:Wx ρ ρ')(d:dV m v v')(h:gy E c w n A ns X g B L Lr bG j ρ v):gy E c w n A ns X g B L Lr bG j ρ' v' where
 wx b x hb:=f _ _ (h.wx b x hb)
 ty:=h.ty.trans d.2.2
 old:=⟨G7 h.old.1 d.1,λa u k=>d.cell (by have:=cy k;have:=e.Sk;omega) (h.old.2 a u k)⟩
 Gz:=f _ _ h.Gz
 works i hi:=d.cell e.aN (h.works i hi)
 dp i h1 h2:=(h.dp i h1 h2).mv (λ_ _ l=>d.cell (e.JE i h2).2 l) (λ_=>d.2.1 _ (e.JE i h2).1) d.1
 links i hi:=f _ _ (h.links i hi)
theorem gy.seen (h:gy E c v0 n A ns Gn g B L Lr m J ρ v)(a:dA ρ v w){X:Nat->Prop}(e: ∀x,X x-> ∃i,i<n/\0<ns i/\x=Lr i)(f:v.cell? Q=S u)(j: ∀i,i<n->0<ns i->Q.block≠L i):(dL ρ X W v).cell? Q=S u:=
 bz f λx k b=>by obtain ⟨i,d,l,rfl⟩:=e x b;exact j i d l (a.inj _ _ _ _ _ k (h.links i d) YQ YQ)
theorem gy.Jx (e:PS v0 m n A ns B L)(h:gy E c v0 n A ns Gn g B L Lr J O ρ v)(a:dA ρ v w){X:Nat->Prop}(f: ∀x,X x-> ∃i,i<n/\0<ns i/\x=Lr i){i:Nat}(j:O<=i)(b:i<n)(l:0<ns i->W (Lr i)):aF (dL ρ X W v) (B i) (L i) (ns i) (Gn i) (g i) aI:=by have d:=h.dp i j b;have o:=d.lt.2.1;refine d.mv (λk u p=>h.seen a f p λk q _=>e.BR k i q b) (λr=> ?_) (by rw[bq];exact A2 _);have:=jS (X:=X) (Wk:=W) (h:=C9 o) (h.links i b) (l r);grind
theorem gy.next (e:PS v0 m n A ns B L)(h:gy E c v0 n A ns X g B L Lr J O ρ v)(b:dA ρ v w)(f:O<n)(j: ∀x,kT ns Lr n (O + 1) x->W x):gy E c v0 n A ns X g B L Lr J (O + 1) ρ (dL ρ (λx=>0<ns O/\x=Lr O) W v) where
 wx:=h.wx
 ty:=h.ty.trans (Ty.ex _ _ _ _)
 old:=⟨by rw[bq];exact h.old.1,λa u o=>h.seen b (λx d=>⟨O,f,d⟩) (h.old.2 a u o) λi l=>e.OP a u o i l⟩
 Gz:=h.Gz
 works i l:=h.seen b (λx d=>⟨O,f,d⟩) (h.works i l) λk p _=>e.ov k p
 dp i h1 h2:=h.Jx e b (λx d=>⟨O,f,d⟩) YP h2 (λq=>j _ ⟨i,h1,h2,q,R⟩)
 links:=h.links
end
section
variable {ρ:aU}
theorem Bi {b d g Lj D G i j Xi Xo:Nat}{nm:Nat->Nat}(h0:E.on)(a:At E c v F (oD E.Wg 35 y A J) w)(H:A≠J)(e:aB c #[K4 (S ⟨O,0,none⟩),K4 (S ⟨b,0,none⟩),K4 (S ⟨d,0,none⟩)] y)
  (k:v.cell? ⟨O,0,none⟩=S (K4 (S ⟨g,0,none⟩)))(l:v.cell? ⟨b,0,none⟩=S (.chan (S i)))(o:v.cell? ⟨d,0,none⟩=S (.chan (S j)))(q:c[i]? =S (Xi,.chan))(r:c[j]? =S (Xo,.chan))(I:z D=S Xi)(K:z G=S Xo)
  (s:aF v g Lj n P p aI)(hn:n<=16)(M: ∀t u,t<m->E.V D (nm t) u->aS u (X t))(x: ∀t u,t<m->aS u (hU P n p aI X t)->E.V G (nm t) u):
  ∃T,mC Try.prog E z T (λ_ _=>True) (iX D G nm m 0) F (born Try.prog (CE A J)) w:=by
 have N:y.size=3:=by have:=e.1;simpa using this.symm
 refine kX a H Try.func35 R R λw a=> ?_;have B:aB c #[K4 (S ⟨O,0,none⟩),K4 (S ⟨b,0,none⟩),K4 (S ⟨d,0,none⟩),U,U,U,U] (y ++ z7 (Try.f35.ntmps - y.size) U):=by rw[N];exact e.ei 4
 refine aa.aC a λw a=> ?_;refine aa.ops (L:= [0,1,2]) (rest:= [3]) (ey:= #[_,_,_]) (Q:=λx' v'=>x'= #[K4 (S ⟨O,0,none⟩),K4 (S ⟨b,0,none⟩),K4 (S ⟨d,0,none⟩),K4 (S ⟨g,0,none⟩),.chan (S i),.chan (S j),U]/\v'.heap=v.heap) bh ⟨_,Try.func35⟩ Zo 0 (.cons ⟨_,R,R,Zn,R⟩ (.cons ⟨_,R,R,Zn,R⟩ (.cons ⟨_,R,R,Zn,R⟩ (.nil)))) Zn YU YU a B (λV=> ?_) ?_
 ·have g1:(aK v V 0).cell? ⟨O,0,none⟩=S (K4 (S ⟨g,0,none⟩)):=k;have g2:(aK v V 0).cell? ⟨b,0,none⟩=S (.chan (S i)):=l;have g3:(aK v V 0).cell? ⟨d,0,none⟩=S (.chan (S j)):=o;clear a B e s q r k l o;go_wp2
  rfl
 ·rintro W x2 y2 v2 w2 F2 C a0 ⟨rfl,Y⟩ a f;refine aa.go a YR (λ_=>fM R R R Try.func36 R R) λw a=> ?_;have Z:aB W #[K4 (S ⟨g,0,none⟩),.chan (S i),.chan (S j)] ((#[.tmp 3,.tmp 4,.tmp 5]:Array B4).map (x7 ⟨y2,[]⟩)):=FW (f.ev (t:=3) R) (f.ev (t:=4) R) (f.ev (t:=5) R);refine uZ (Lg:=λ_ _=>True) hn M x I K (λa1 v3 F3 w3 a=> ?_) a (C _ _ q) (C _ _ r) (s.heap Y) Z;rw[bu R];refine aa.aH a λw a=> ?_;refine aa.gQ a λw a=> ?_;refine aa.go a YR (λ_=>dT Try.func35 R) λw a=> ?_;exact ib a h0 (λ_ _=>trivial) _
theorem Bj {k c C d:Nat}(I:E.on)(a:At E ρ v F (oD E.Wg 37 y A n) w)(l:A≠n)(b:aB ρ #[K4 (S ⟨J,0,none⟩),K4 (S ⟨O,0,none⟩)] y)
  (D:v.cell? ⟨J,0,none⟩=S (.slice e m d))(G:v.cell? ⟨O,0,none⟩=S (.chan (S c)))(f:ρ[c]? =S (C,.chan))(o:z k=S C)(p:bj v (.slice e m d) m X)(K:m<=1000000)(g: ∀t u,t<m->aS u (X t)->E.V k t u):
  ∃T,mC Try.prog E z T (λ_ _=>True) (jV k m 0) F (born Try.prog (CE A n)) w:=by
 have q:y.size=2:=by have:=b.1;simpa using this.symm
 refine kX a l Try.func37 R R λw a=> ?_;have i:aB ρ #[K4 (S ⟨J,0,none⟩),K4 (S ⟨O,0,none⟩),U,U,U] (y ++ z7 (Try.f37.ntmps - y.size) U):=by rw[q];exact b.ei 3
 refine aa.aC a λw a=> ?_;refine aa.ops (L:= [0,1]) (rest:= [2]) (ey:= #[_,_]) (Q:=λM N=>M= #[K4 (S ⟨J,0,none⟩),K4 (S ⟨O,0,none⟩),.slice e m d,.chan (S c),U]/\N.heap=v.heap) bh ⟨_,Try.func37⟩ Zo 0 (.cons ⟨_,R,R,Zn,R⟩ (.cons ⟨_,R,R,Zn,R⟩ (.nil))) Zn YU YU a i (λH=> ?_) ?_
 ·have Y:(aK v H 0).cell? ⟨J,0,none⟩=S (.slice e m d):=D;have Z:(aK v H 0).cell? ⟨O,0,none⟩=S (.chan (S c)):=G;have Hl:=au p;clear a i b f D G p;go_wp2
  rfl
 ·rintro r x2 P v2 w2 F2 s V ⟨rfl,x⟩ a j;refine aa.go a YR (λ_=>fM R R R Try.func38 R R) λw a=> ?_;have B:aB r #[.slice e m d,.chan (S c)] ((#[.tmp 2,.tmp 3]:Array B4).map (x7 ⟨P,[]⟩)):=rf (j.ev (t:=2) R) (j.ev (t:=3) R);refine DH (Lg:=λ_ _=>True) K g o (λW v3 F3 w3 a=> ?_) a (s _ _ f) (p.av (aA.heap x)) B;rw[bu R];refine aa.aH a λw a=> ?_;refine aa.gQ a λw a=> ?_;refine aa.go a YR (λ_=>dT Try.func37 R) λw a=> ?_;exact ib a I (λ_ _=>trivial) _
end
noncomputable def mw:G0:=match Try.f16.body with | some (.seq _ (.seq _ (.seq _ (.seq _ (.seq _ (.seq _ (.seq (.seq _ (.block _ (.loop c))) _)))))))=>c | _=> .skip
noncomputable def JZ:Array Oper:=match mw with | .seq _ (.seq _ (.seq (.block _ (.seq _ (.seq (.region _ o _) _))) _))=>o | _=> #[]
theorem sX:(Try.prog.info? 102).bind (·.zero)=S (.chan none):=Zn
def ptr (b:Nat):x9:= K4 (S ⟨b,0,none⟩)
def Bx (v:World)(b:Nat)(u:x9)(t:I3):Prop:=v.heap[b]? =S (.cells #[u] t (0,0))
theorem Bx.cell{b:Nat}(h:Bx v b u t):v.cell? ⟨b,0,none⟩=S u:=by unfold w7;rw[h];rfl
theorem Bx.free(h:Bx v n u t):v.frozen? ⟨n,0,none⟩=false:=by unfold A6;rw[h];rfl
theorem Bx.new(e:w.heap=v.heap.push (.cells #[u] t)):Bx w v.heap.size u t:=by unfold Bx;grind
theorem Bx.keep{b:Nat}(h:Bx v b u t)(k:ar v w):Bx w b u t:=by unfold Bx;rw[k.2 b (aG h)];exact h
theorem Bx.set{b:Nat}(h:Bx v b u t)(e:w.heap=(v.setCell ⟨b,0,none⟩ Y).heap):Bx w b Y t:=by unfold Bx at h ⊢;rw[e,heap_set,if_pos R,h];rfl
theorem Bx.other(h:Bx v n u t)(e:w.heap=(v.setCell ⟨m,0,none⟩ Y).heap)(a:m≠n):Bx w n u t:=by unfold Bx at h ⊢;rw[e,heap_set,if_neg a];exact h
theorem ar.set {a:World}(h:ar w v)(e:a.heap=(v.setCell ⟨n,0,none⟩ u).heap)(d:w.heap.size<=n):ar w a:=⟨by rw[e];simpa[World.setCell]using h.1,λb c=>by rw[e,heap_set,if_neg YS];exact h.2 b c⟩
structure SB (ρ:aU)(v:World)(F:aq)(x:Array x9)(r:ca)(c9 j:Nat)(dn:Array Bool)(s:CO):Prop where
 wx:Wx ρ s.ρ
 low:ar v s.v
 qP:F.le s.F
 sz:s.x.size=54
 same: ∀k:Nat,k≠33->k≠34->k≠13->k≠14->s.x[k]? =x[k]?
 d0:dn.getD 0 false=true->s.x[33]? =S (.chan (S c9))
 n1:dn.getD 1 false=false->s.r=r
 d1:dn.getD 1 false=true-> ∃b1 X1,s.x[34]? =S (.chan (S b1))/\s.ρ[b1]? =S (X1,.chan)/\s.r=r.put (j + 1) X1
 d2:dn.getD 2 false=true-> ∃b,s.x[13]? =S (ptr b)/\v.heap.size<=b/\Bx s.v b (if dn.getD 4 false then .chan (S c9)else .chan none) 102
 d3:dn.getD 3 false=true-> ∃b,s.x[14]? =S (ptr b)/\v.heap.size<=b/\Bx s.v b (if dn.getD 5 false then s.x.getD 34 U else .chan none) 102
 ne: ∀b b',s.x[13]? =S (ptr b)->s.x[14]? =S (ptr b')->dn.getD 2 false=true->dn.getD 3 false=true->b≠b'
 Gy:dn.getD 4 false=true->dn.getD 0 false=true/\dn.getD 2 false=true/\dn.getD 3 false=true
 Od:dn.getD 5 false=true->dn.getD 1 false=true/\dn.getD 3 false=true
section
variable {ρ:aU}{val:cH}{x:Array Value}{j:Nat}{pl:List (List Ak)}{s:List Ak}
theorem Na(h:Bx v n u t):n<v.heap.size:=aG h
theorem Ia (t:At E ρ v F val w)(M:aB ρ x y)(a9:x.size=54)(h9:x[9]? =some (.chan (some m)))(hr:z (j + 1)=none)
  (K: ∀ (r':ca)(J:aU)(L:World)(Y:aq)(x' y':Array Value)(w':World)(a3 a4 Q T:Nat),Wx ρ J->ar v L->F.le Y->x'.size=54->(∀k:Nat,k≠33->k≠34->k≠13->k≠14->x'[k]? =x[k]?)->x'[13]? =some (ptr a3)->x'[14]? =some (ptr a4)->v.heap.size<=a3->v.heap.size<=a4->
   L.cell? ⟨a3,0,none⟩=some (.chan (some m))->L.cell? ⟨a4,0,none⟩=some (.chan (some Q))->J[Q]? =some (T,.chan)->r'=z.put (j + 1) T->At E J L Y val w'->aB J x' y'->aa Try.prog E true b D a n r' r (.work H pl s) Y (G (ak 16 y' k) l) w'):
  aa Try.prog E true b D a n z r (.work H pl s) F (G (ak 16 y (.code (.region 10 JZ true)::k)) l) w:=by
 have a6:JZ=JZ:=rfl;conv at a6=>rhs;unfold JZ mw;simp only[Try.f16]
 rw[a6];refine aa.order (I:=SB ρ v F x z m j) Zo Zn Zn t M ?_ ?_ ?_
 ·exact ⟨λ_ _ h=>h,ar.refl _,aq.le_refl _,a9,λ_ _ _ _ _=>rfl,λh=>by simp at h,λ_=>rfl,λh=>by simp at h,λh=>by simp at h,λh=>by simp at h,λ_ _ _ _ h=>by simp at h,λh=>by simp at h,λh=>by simp at h⟩
 ·intro Z i o p b4 d b0 ho hi hd K2 y w t M;have hk:i<6:=by simpa using (Array.getElem?_eq_some_iff.1 ho).1
  have a2:Z.size=6:=by simpa using b0
  have u:=cz hi a2 hk;have q: ∀k,k≠i->(Z.setIfInBounds i true).getD k false=Z.getD k false:=λk hk=>z9 false (Ne.symm hk);have gi:=bS a2 hk;have N: ∀k,Z.getD k false=true->(Z.setIfInBounds i true).getD k false=true:=λk h=>by
   by_cases e:k=i
   ·grind
   ·rw[q k e];exact h
  rcases (by omega:i=0\/i=1\/i=2\/i=3\/i=4\/i=5)with rfl | rfl | rfl | rfl | rfl | rfl
  all_goals obtain rfl:=A5 ho
  ·refine aa.fP (R:=λu L=>u= .chan (some m)/\L.heap=p.v.heap) bh ⟨_,Try.func16⟩ Zo rfl rfl Zn YU YU t M (λtp=>aJ rfl (ay ((d.same 9 YQ YQ YQ YQ).trans h9)) ⟨rfl,rfl⟩) ?_;rintro J y' L w' Y u' V hF ⟨rfl,C⟩ t M;exact K2 ⟨p.r,J,L,Y,p.x.setIfInBounds 33 (.chan (some m))⟩ ⟨λf a1 h=>V _ _ (d.wx f a1 h),d.low.trans (ar.heap C),aq.le_trans d.qP hF,by simpa using d.sz,λk h1 h2 h3 h4=>by rw[Array.getElem?_setIfInBounds_ne (Ne.symm h1)];exact d.same k h1 h2 h3 h4,
    λ_=>aE d.sz YQ,λh=>d.n1 (by rw[q 1 YQ]at h;exact h),λh=>by
     obtain ⟨Q,T,A,B,q3⟩:=d.d1 (by rw[q 1 YQ]at h;exact h);exact ⟨Q,T,ab A YQ,V _ _ B,q3⟩,λh=>by
     obtain ⟨f,A,B,q3⟩:=d.d2 (by rw[q 2 YQ]at h;exact h);exact ⟨f,ab A YQ,B,by rw[q 4 YQ];exact q3.keep (ar.heap C)⟩,λh=>by
     obtain ⟨f,A,B,q3⟩:=d.d3 (by rw[q 3 YQ]at h;exact h);refine ⟨f,ab A YQ,B,?_⟩;rw[q 5 YQ,show (p.x.setIfInBounds 33 (.chan (some m))).getD 34 U=p.x.getD 34 U by simp];exact q3.keep (ar.heap C),λf O A B q3 q4=>by
     rw[Array.getElem?_setIfInBounds_ne YQ]at A B;rw[q 2 YQ]at q3;rw[q 3 YQ]at q4;exact d.ne f O A B q3 q4,λh=>(by rw[q 4 YQ]at h;obtain ⟨a0,f,c⟩:=d.Gy h;grind),λh=>(by rw[q 5 YQ]at h;obtain ⟨a0,f⟩:=d.Od h;exact ⟨N _ a0,N _ f⟩)⟩ _ _ t M
  ·have b3:p.r (j + 1)=none:=by rw[d.n1 u];exact hr
   have u5:Z.getD 5 false=false:=by
    cases h5:Z.getD 5 false with
    | false=>rfl
    | true=>rw[(d.Od h5).1]at u;cases u
   refine aa.zO (i:=1) (c:=j + 1) rfl t M rfl rfl rfl rfl b3 λw' X t M=> ?_;have a7:(p.x.setIfInBounds 34 (.chan (some p.ρ.size)))[34]? =some (.chan (some p.ρ.size)):=aE d.sz YQ;have a5:ar p.v (zq p.v):=ar.push rfl;exact K2 ⟨p.r.put (j + 1) X,p.ρ.push (X,.chan),zq p.v,p.F,p.x.setIfInBounds 34 (.chan (some p.ρ.size))⟩ ⟨λf a1 h=>ja _ _ _ _ (d.wx f a1 h),d.low.trans a5,d.qP,by simpa using d.sz,λk h1 h2 h3 h4=>by rw[Array.getElem?_setIfInBounds_ne (Ne.symm h2)];exact d.same k h1 h2 h3 h4,
    λh=>ab (d.d0 (by rw[q 0 YQ]at h;exact h)) YQ,λh=>YS,λ_=>⟨_,X,a7,YR,by rw[d.n1 u]⟩,λh=>by
     obtain ⟨f,A,B,q3⟩:=d.d2 (by rw[q 2 YQ]at h;exact h);exact ⟨f,ab A YQ,B,by rw[q 4 YQ];exact q3.keep a5⟩,λh=>by
     obtain ⟨f,A,B,q3⟩:=d.d3 (by rw[q 3 YQ]at h;exact h);refine ⟨f,ab A YQ,B,?_⟩;rw[u5]at q3;rw[q 5 YQ,u5];exact q3.keep a5,λf O A B q3 q4=>by
     rw[Array.getElem?_setIfInBounds_ne YQ]at A B;rw[q 2 YQ]at q3;rw[q 3 YQ]at q4;exact d.ne f O A B q3 q4,λh=>(by rw[q 4 YQ]at h;obtain ⟨a0,f,c⟩:=d.Gy h;exact ⟨N _ a0,N _ f,N _ c⟩),λh=>(by rw[q 5 YQ]at h;grind)⟩ _ _ t M
  ·have u4:Z.getD 4 false=false:=by
    cases h4:Z.getD 4 false with
    | false=>rfl
    | true=>rw[(d.Gy h4).2.1]at u;cases u
   refine aa.fP (R:=λu L=>u=ptr p.v.heap.size/\L.heap=p.v.heap.push (.cells #[.chan none] 102)) bh ⟨_,Try.func16⟩ Zo rfl rfl Zn YU YU t M (λtp=>aL (ll rfl sX) ⟨rfl,rfl⟩) ?_;rintro J y' L w' Y u' V hF ⟨rfl,C⟩ t M;have P:=ar.push C;exact K2 ⟨p.r,J,L,Y,p.x.setIfInBounds 13 (ptr p.v.heap.size)⟩ ⟨λf a1 h=>V _ _ (d.wx f a1 h),d.low.trans P,aq.le_trans d.qP hF,by simpa using d.sz,λk h1 h2 h3 h4=>by rw[Array.getElem?_setIfInBounds_ne (Ne.symm h3)];exact d.same k h1 h2 h3 h4,
    λh=>ab (d.d0 (by rw[q 0 YQ]at h;exact h)) YQ,λh=>d.n1 (by rw[q 1 YQ]at h;exact h),λh=>by
     obtain ⟨Q,T,A,B,q3⟩:=d.d1 (by rw[q 1 YQ]at h;exact h);exact ⟨Q,T,ab A YQ,V _ _ B,q3⟩,λ_=>⟨_,aE d.sz YQ,d.low.1,by rw[q 4 YQ,u4];exact Bx.new C⟩,λh=>by
     obtain ⟨f,A,B,q3⟩:=d.d3 (by rw[q 3 YQ]at h;exact h);refine ⟨f,ab A YQ,B,?_⟩;rw[q 5 YQ,show (p.x.setIfInBounds 13 (ptr p.v.heap.size)).getD 34 U=p.x.getD 34 U by simp];exact q3.keep P,λf O A B q3 q4=>by
     rw[aE d.sz YQ]at A;rw[Array.getElem?_setIfInBounds_ne YQ]at B;rw[q 3 YQ]at q4;obtain ⟨b2,q5,_,q6⟩:=d.d3 q4;rw[B]at q5;have e1:f=p.v.heap.size:=by simp[ptr]at A;exact A.symm
     have e2:O=b2:=by simp[ptr]at q5;exact q5
     have:=Na q6;omega,λh=>(by rw[q 4 YQ]at h;grind),λh=>(by rw[q 5 YQ]at h;obtain ⟨a0,f⟩:=d.Od h;exact ⟨N _ a0,N _ f⟩)⟩ _ _ t M
  ·have u5:Z.getD 5 false=false:=by
    cases h5:Z.getD 5 false with
    | false=>rfl
    | true=>rw[(d.Od h5).2]at u;cases u
   refine aa.fP (R:=λu L=>u=ptr p.v.heap.size/\L.heap=p.v.heap.push (.cells #[.chan none] 102)) bh ⟨_,Try.func16⟩ Zo rfl rfl Zn YU YU t M (λtp=>aL (ll rfl sX) ⟨rfl,rfl⟩) ?_;rintro J y' L w' Y u' V hF ⟨rfl,C⟩ t M;have P:=ar.push C;exact K2 ⟨p.r,J,L,Y,p.x.setIfInBounds 14 (ptr p.v.heap.size)⟩ ⟨λf a1 h=>V _ _ (d.wx f a1 h),d.low.trans P,aq.le_trans d.qP hF,by simpa using d.sz,λk h1 h2 h3 h4=>by rw[Array.getElem?_setIfInBounds_ne (Ne.symm h4)];exact d.same k h1 h2 h3 h4,
    λh=>ab (d.d0 (by rw[q 0 YQ]at h;exact h)) YQ,λh=>d.n1 (by rw[q 1 YQ]at h;exact h),λh=>by
     obtain ⟨Q,T,A,B,q3⟩:=d.d1 (by rw[q 1 YQ]at h;exact h);exact ⟨Q,T,ab A YQ,V _ _ B,q3⟩,λh=>by
     obtain ⟨f,A,B,q3⟩:=d.d2 (by rw[q 2 YQ]at h;exact h);exact ⟨f,ab A YQ,B,by rw[q 4 YQ];exact q3.keep P⟩,λ_=>⟨_,aE d.sz YQ,d.low.1,by rw[q 5 YQ,u5];exact Bx.new C⟩,λf O A B q3 q4=>by
     rw[aE d.sz YQ]at B;rw[Array.getElem?_setIfInBounds_ne YQ]at A;rw[q 2 YQ]at q3;obtain ⟨b2,q5,_,q6⟩:=d.d2 q3;rw[A]at q5;have e1:O=p.v.heap.size:=by simp[ptr]at B;exact B.symm
     have e2:f=b2:=by simp[ptr]at q5;exact q5
     have:=Na q6;omega,λh=>(by rw[q 4 YQ]at h;obtain ⟨a0,f,c⟩:=d.Gy h;exact ⟨N _ a0,N _ f,N _ c⟩),λh=>(by rw[q 5 YQ]at h;grind)⟩ _ _ t M
  ·have g0:=hd ⟨0,.data⟩ YR rfl;have g2:=hd ⟨2,.data⟩ YR rfl;have g3:=hd ⟨3,.phase⟩ YR rfl;obtain ⟨f,A,B,q3⟩:=d.d2 g2;rw[u]at q3;refine aa.fP (R:=λ_ L=>L.heap=(p.v.setCell ⟨f,0,none⟩ (.chan (some m))).heap) bh ⟨_,Try.func16⟩ Zo rfl rfl Zn YU YU t M (λtp=>ij (nY rfl (ay A) (ay (d.d0 g0)) (show (aK p.v tp 0).cell? ⟨f,0,none⟩=some (.chan none)from q3.cell) (show (aK p.v tp 0).frozen? ⟨f,0,none⟩=false from q3.free)) rfl) ?_;rintro J y' L w' Y u' V hF C t M;exact K2 ⟨p.r,J,L,Y,p.x⟩ ⟨λf a1 h=>V _ _ (d.wx f a1 h),d.low.set C B,aq.le_trans d.qP hF,d.sz,d.same,
    λ_=>d.d0 g0,λh=>d.n1 (by rw[q 1 YQ]at h;exact h),λh=>by
     obtain ⟨Q,T,W,p2,p3⟩:=d.d1 (by rw[q 1 YQ]at h;exact h);exact ⟨Q,T,W,V _ _ p2,p3⟩,λ_=>⟨f,A,B,by rw[gi];exact q3.set C⟩,λ_=>by
     obtain ⟨O,W,p2,p3⟩:=d.d3 g3;exact ⟨O,W,p2,by rw[q 5 YQ];exact p3.other C (d.ne f O A W g2 g3)⟩,λf O W p2 p3 p4=>d.ne f O W p2 g2 g3,λ_=>⟨N _ g0,N _ g2,N _ g3⟩,λh=>(by rw[q 5 YQ]at h;obtain ⟨a0,f⟩:=d.Od h;exact ⟨N _ a0,N _ f⟩)⟩ _ _ t M
  ·have g1:=hd ⟨1,.data⟩ YR rfl;have g2:=hd ⟨2,.phase⟩ YR rfl;have g3:=hd ⟨3,.data⟩ YR rfl;obtain ⟨f,A,B,q3⟩:=d.d3 g3;obtain ⟨Q,T,W,p2,p3⟩:=d.d1 g1;rw[u]at q3;refine aa.fP (R:=λ_ L=>L.heap=(p.v.setCell ⟨f,0,none⟩ (.chan (some Q))).heap) bh ⟨_,Try.func16⟩ Zo rfl rfl Zn YU YU t M (λtp=>ij (nY rfl (ay A) (ay W) (show (aK p.v tp 0).cell? ⟨f,0,none⟩=some (.chan none)from q3.cell) (show (aK p.v tp 0).frozen? ⟨f,0,none⟩=false from q3.free)) rfl) ?_;rintro J y' L w' Y u' V hF C t M;exact K2 ⟨p.r,J,L,Y,p.x⟩ ⟨λf a1 h=>V _ _ (d.wx f a1 h),d.low.set C B,aq.le_trans d.qP hF,d.sz,d.same,
    λh=>d.d0 (by rw[q 0 YQ]at h;exact h),λh=>d.n1 (by rw[q 1 YQ]at h;exact h),λ_=>⟨Q,T,W,V _ _ p2,p3⟩,λ_=>by obtain ⟨O,m1,m2,m3⟩:=d.d2 g2;exact ⟨O,m1,m2,by rw[q 4 YQ];exact m3.other C λe=>d.ne O f m1 A g2 g3 e.symm⟩,λ_=>⟨f,A,B,by rw[gi,Array.getD_eq_getD_getElem?,W];exact q3.set C⟩,λf O W p2 p3 p4=>d.ne f O W p2 g2 g3,λh=>(by rw[q 4 YQ]at h;obtain ⟨a0,f,c⟩:=d.Gy h;exact ⟨N _ a0,N _ f,N _ c⟩),λ_=>⟨N _ g1,N _ g3⟩⟩ _ _ t M
 ·intro Z p d a8 y w t M;have g:=λi hi=>a8 i (show i<6 from hi);obtain ⟨f,A,B,q3⟩:=d.d2 (g 2 YQ);obtain ⟨O,W,p2,p3⟩:=d.d3 (g 3 YQ);obtain ⟨Q,T,m1,m2,m3⟩:=d.d1 (g 1 YQ);rw[g 4 YQ]at q3;rw[g 5 YQ,Array.getD_eq_getD_getElem?,m1]at p3;exact m3▸K p.r p.ρ p.v p.F p.x y w f O Q T d.wx d.low d.qP d.sz d.same A W B p2 q3.cell p3.cell m2 m3 t M
end
noncomputable def xh:G0:=match Try.f16.body with | some (.seq _ (.seq _ (.seq _ (.seq _ (.seq _ (.seq _ (.seq _ c)))))))=>c | _=> .skip
theorem Im:(Try.prog.info? 50).bind (·.zero)=S (.pointer none):=Zn
structure zi (x:Array x9)(bL bG bF A n c9 j:Nat):Prop where
 sz:x.size=54
 s3:x[3]? =S (ptr bL)
 s8:x[8]? =S (ptr bG)
 s9:x[9]? =S (.chan (S c9))
 oy:x[10]? =S (ptr bF)
 Pf:x[27]? =S (K3 (S ⟨A,0,none⟩) n n)
 MX:x[28]? =S (J9 K1 n)
 LY:x[29]? =S (J9 K1 j)
theorem zi.put{bG c9 j d:Nat}(h:zi y m bG J A n c9 j)(a:(d !=3 && d !=8 && d !=9 && d !=10 && d !=27 && d !=28 && d !=29)=true):zi (y.setIfInBounds d u) m bG J A n c9 j:=by simp only[I1,bne_iff_ne]at a;obtain ⟨⟨⟨⟨⟨⟨b,c⟩,e⟩,f⟩,g⟩,i⟩,k⟩:=a;exact ⟨by simpa using h.sz,ab h.s3 b,ab h.s8 c,ab h.s9 e,ab h.oy f,ab h.Pf g,ab h.MX i,ab h.LY k⟩
theorem zi.SZ{j c:Nat}(h:zi y m J L A n O j):zi (y.setIfInBounds 9 (.chan (S c))) m J L A n c j:=
 ⟨by simpa using h.sz,ab h.s3 YQ,ab h.s8 YQ,aE h.sz YQ,ab h.oy YQ,ab h.Pf YQ,ab h.MX YQ,ab h.LY YQ⟩
theorem zi.QX{j k:Nat}(h:zi y m J L A n O j):zi (y.setIfInBounds 29 (J9 K1 (k:Nat))) m J L A n O k:=
 ⟨by simpa using h.sz,ab h.s3 YQ,ab h.s8 YQ,ab h.s9 YQ,ab h.oy YQ,ab h.Pf YQ,ab h.MX YQ,aE h.sz YQ⟩
theorem dV.set(e:w.heap=(v.setCell ⟨m,0,none⟩ u).heap)(c:n<=m):dV n v w:=by refine ⟨by rw[e];simp[World.setCell],λb a=>by rw[e,heap_set,if_neg (by show ¬m=b;omega)],λb k t f a=> ?_⟩;rw[e,heap_set];grind
structure FK (F:aq)(ns Lr:Nat->Nat)(n j:Nat):Prop where
 cl: ∀b i,¬F.cl b i
 kw: ∀x,kT ns Lr n j x->F.wr x/\F.rd x
theorem FK.le {a:aq}{c:Nat->Nat}{j:Nat}(h:FK F B c n j)(k:F.le a):FK a B c n j:=⟨λb i e=>h.cl b i ((k.cl b i).1 e),λx d=>⟨k.wr x (h.kw x d).1,k.rd x (h.kw x d).2⟩⟩
section
variable {val:cH}{mg:aU}{ns:Nat->Nat}{Gn:Nat->C2}{L Lr:Nat->Nat}{bL bF b0 X0:Nat}
theorem Bl (T:PS w J n A ns B L)(h0:E.on)(hV:E.V=Vp ns Gn g X)(C:bF<J)(d7: ∀i,i<n->0<ns i->bF≠L i)(hn:n<=1000)(h7: ∀i,i<n->ns i<=16)(h8: ∀b ob,val.bk b=S ob-> ∀i,i<n->b≠Lr i)
  (h9: ∀ (r:ca)(lg:List bC)(ρ:aU)(v:World)(F:aq)(o:World)(x y:Array Value)(c9 X9:Nat),At E ρ v F val o->gy E mg w n A ns Gn g B L Lr O n ρ v->FK F ns Lr n n->J<=v.heap.size->zi x bL O bF A n c9 n->v.cell? ⟨bF,0,none⟩=S (.chan (S b0))->ρ[c9]? =S (X9,.chan)->ρ[b0]? =S (X0,.chan)->r n=S X9->r 0=S X0->aB ρ x y->
   aa Try.prog E true (mC Try.prog E) D a 0 r lg (.work false [jV 0 m 0] I) F (G (ak 16 y [.code xh]) l) o):
  ∀ (q j:Nat)(r:ca)(lg:List bC)(H:aU)(Q:World)(F0:aq)(o:World)(x0 y0:Array Value)(c9 X9:Nat),j + q=n->At E H Q F0 val o->gy E mg w n A ns Gn g B L Lr O j H Q->FK F0 ns Lr n j->J<=Q.heap.size->zi x0 bL O bF A n c9 j->Q.cell? ⟨bF,0,none⟩=S (.chan (S b0))->H[c9]? =S (X9,.chan)->H[b0]? =S (X0,.chan)->r j=S X9->r 0=S X0->(∀c,j<c->r c=none)->aB H x0 y0->
   aa Try.prog E true (mC Try.prog E) D a 0 r lg (.work false (wS m q j) I) F0 (G (ak 16 y0 [.code mw,.inLoop mw,.inBlock 0,.code xh]) l) o:=by
 intro q;induction q with
 | zero=>
  intro j r lg H Q F0 o x0 y0 c9 X9 hq f d8 d9 a6 M e0 e1 tX r9 r0 e2 e3;have z:j=n:=YP;subst z;have a1:mw=mw:=rfl;conv at a1=>rhs;unfold mw;simp only[Try.f16]
  rw[a1];refine aa.ah f λo f=> ?_;refine aa.aC f λo f=> ?_;refine aa.fP (i:=0) (R:=λu N=>u= .bool false/\N.heap=Q.heap) bh ⟨_,Try.func16⟩ Zo rfl rfl Zn YU YU f e3 (λtp=>aL (MC rfl (ay M.LY) (ay M.MX) YP) ⟨rfl,rfl⟩) ?_;rintro i0 y1 v1 o F1 u1 V e4 ⟨rfl,a7⟩ f a8;have Y:=dV.of (ar.heap a7) a6;have e5:=d8.low T V.w Y;have e6:=d9.le e4;have c1:=Nat.le_trans a6 Y.1;have e7:=Y.cell C e0;have e8:=V _ _ e1;have e9:=V _ _ tX;have a2:=M.put (d:=30) (u:= .bool false) YQ;refine aa.aH f λo f=> ?_;refine aa.ah f λo f=> ?_;refine aa.go f YR (λ_=>bH (a8.bool (aE M.sz YQ))) λo f=> ?_;simp only[A8, ↓reduceIte];refine aa.go f YR (λ_=>fe rfl) λo f=> ?_;exact h9 r lg i0 v1 F1 o _ y1 c9 X9 f e5 e6 c1 a2 e7 e8 e9 r9 r0 a8
 | succ q ih=>
  intro j r lg H Q F0 o x0 y0 c9 X9 hq f d8 d9 a6 M e0 e1 tX r9 r0 e2 e3;have z:j<n:=YP;have a1:mw=mw:=rfl;conv at a1=>rhs;unfold mw;simp only[Try.f16]
  rw[a1];refine aa.ah f λo f=> ?_;refine aa.aC f λo f=> ?_;refine aa.fP (i:=0) (R:=λu N=>u= .bool true/\N.heap=Q.heap) bh ⟨_,Try.func16⟩ Zo rfl rfl Zn YU YU f e3 (λtp=>aL (Gi rfl (ay M.LY) (ay M.MX) YP) ⟨rfl,rfl⟩) ?_;rintro i0 y1 v1 o F1 u1 V e4 ⟨rfl,a7⟩ f a8;have Y:=dV.of (ar.heap a7) a6;have e5:=d8.low T V.w Y;have e6:=d9.le e4;have c1:=Nat.le_trans a6 Y.1;have e7:=Y.cell C e0;have e8:=V _ _ e1;have e9:=V _ _ tX;have a2:=M.put (d:=30) (u:= .bool true) YQ;refine aa.aH f λo f=> ?_;refine aa.ah f λo f=> ?_;refine aa.go f YR (λ_=>bH (a8.bool (aE M.sz YQ))) λo f=> ?_;simp only[if_true];refine aa.dh f λo f=> ?_;refine aa.ah f λo f=> ?_;refine aa.aV f λo f=> ?_;refine aa.ah f λo f=> ?_;refine aa.aC f λo f=> ?_;refine aa.fP (i:=0) (R:=λu N=>u= K4 (S ⟨A,j,none⟩)/\N.heap=v1.heap) bh ⟨_,Try.func16⟩ Zo rfl rfl Zn YU YU f a8 (λtp=>aL (Gh rfl (ay a2.Pf) (ay a2.LY) z hn) ⟨rfl,rfl⟩) ?_;rintro t6 y2 v2 o F2 u2 f0 n1 ⟨rfl,i1⟩ f n2;have f1:=dV.of (ar.heap i1) c1;have i2:=e5.low T f0.w f1;have n3:=e6.le n1;have i3:=Nat.le_trans c1 f1.1;have n4:=f1.cell C e7;have n5:=f0 _ _ e8;have n6:=f0 _ _ e9;have i4:=a2.put (d:=31) (u:= K4 (S ⟨A,j,none⟩)) YQ;refine aa.fP (i:=1) (R:=λu N=>u=ptr (B j)/\N.heap=v2.heap) bh ⟨_,Try.func16⟩ Zo rfl rfl Zn YU YU f n2 (λtp=>aL (gS rfl (ay (aE a2.sz YQ)) (zL (i2.works j z))) ⟨rfl,rfl⟩) ?_;rintro t7 y3 v3 o F3 u3 f2 n7 ⟨rfl,i5⟩ f n8;have f3:=dV.of (ar.heap i5) i3;have n9:=i2.low T f2.w f3;have o0:=n3.le n7;have c2:=Nat.le_trans i3 f3.1;have o1:=f3.cell C n4;have o2:=f2 _ _ n5;have o3:=f2 _ _ n6;have f4:=i4.put (d:=32) (u:=ptr (B j)) YQ;refine aa.fP (i:=2) (R:=λu N=>u=ptr v3.heap.size/\N.heap=v3.heap.push (.cells #[.pointer none] 50)) bh ⟨_,Try.func16⟩ Zo rfl rfl Zn YU YU f n8 (λtp=>aL (ll rfl Im) ⟨rfl,rfl⟩) ?_;rintro t8 y4 v4 o F4 u4 f5 o4 ⟨rfl,c6⟩ f o5;have f6:=dV.of (ar.push c6) c2;have o6:=n9.low T f5.w f6;have o7:=o0.le o4;have o8:=Nat.le_trans c2 f6.1;have o9:=f6.cell C o1;have p0:=f5 _ _ o2;have p1:=f5 _ _ o3;have p3:=f4.put (d:=12) (u:=ptr v3.heap.size) YQ;have f7:=Bx.new c6;refine aa.fP (i:=3) (R:=λu N=>N.heap=(v4.setCell ⟨v3.heap.size,0,none⟩ (ptr (B j))).heap) bh ⟨_,Try.func16⟩ Zo rfl rfl Zn YU YU f o5 (λtp=>ij (Cv rfl (ay (aE f4.sz YQ)) (ay (ab (aE i4.sz YQ) YQ)) (show (aK v4 tp 0).cell? ⟨v3.heap.size,0,none⟩=S (.pointer none)from f7.cell) (show (aK v4 tp 0).frozen? ⟨v3.heap.size,0,none⟩=false from f7.free)) rfl) ?_;rintro t9 y5 v5 o F5 u5 f8 p4 c7 f p5;have f9:=dV.set c7 c2;have p6:=o6.low T f8.w f9;have p7:=o7.le p4;have i6:=Nat.le_trans o8 f9.1;have p8:=f9.cell C o9;have p9:=f8 _ _ p0;have q0:=f8 _ _ p1;have P:=p3;have i7:=f7.set c7;refine aa.aH f λo f=> ?_;refine aa.ah f λo f=> ?_;have g0:JZ=JZ:=rfl;conv at g0=>rhs;unfold JZ mw;simp only[Try.f16]
  rw[<-g0];refine Ia (j:=j) f p5 P.sz P.s9 (e2 (j + 1) YP) λr6 a3 v6 F6 x6 y6 o i8 g1 b1 X1 g2 d0 q1 d1 p q2 i9 u0 u6 q4 j0 j1 c3 f a4=> ?_;have g3:=dV.of d0 i6;have K:=p6.low T g2 g3;have c4:=p7.le q1;have j2:=Nat.le_trans i6 g3.1;have j3:=g3.cell C p8;have j4:=g2 _ _ p9;have q5:=g2 _ _ q0;have j5:zi x6 bL O bF A n c9 j:=⟨d1,(p 3 YQ YQ YQ YQ).trans P.s3,(p 8 YQ YQ YQ YQ).trans P.s8,(p 9 YQ YQ YQ YQ).trans P.s9,(p 10 YQ YQ YQ YQ).trans P.oy,(p 27 YQ YQ YQ YQ).trans P.Pf,(p 28 YQ YQ YQ YQ).trans P.MX,(p 29 YQ YQ YQ YQ).trans P.LY⟩;have q6:=(p 12 YQ YQ YQ YQ).trans (aE f4.sz YQ);have q7:=d0.cell i7.cell;have q8:=c2;have j6:J<=i8:=YP;have d2:J<=g1:=YP;have q9:r6 j=S X9:=by rw[c3];unfold ca.put;rw[if_neg YP];exact r9
  have j7:r6 (j + 1)=S X1:=by rw[c3];unfold ca.put;rw[if_pos rfl]
  have r1:r6 0=S X0:=by rw[c3];unfold ca.put;rw[if_neg YP];exact r0
  have r2: ∀c,j + 1<c->r6 c=none:=λc hc=>by rw[c3];unfold ca.put;rw[if_neg YP];exact e2 c YP
  refine aa.ah f λo f=> ?_;refine aa.aC f λo f=> ?_;refine aa.go f YR (λ_=>qi (d:=35) rfl rfl rfl rfl) λo f=> ?_;obtain ⟨s,a9⟩: ∃s,s=(#[.tmp 12,.tmp 13,.tmp 14]:Array B4).map (x7 ⟨y6,[]⟩):=⟨_,rfl⟩;have r3:aB a3 #[ptr v3.heap.size,ptr i8,ptr g1] s:=by rw[a9];exact FW (a4.ev q6) (a4.ev q2) (a4.ev i9)
  rw[<-a9];have g4:=aB.set (i:=35) a4 (VR.qH (r:=a3) (.func (.func 35) #[] s) trivial);have g5:=j5.put (d:=35) (u:= .nilFunc) YQ;have j8:x7 ⟨y6.setIfInBounds 35 (.func (.func 35) #[] s),[]⟩ (.tmp 35)= .func (.func 35) #[] s:=ay (aE (n:=54) (by rw[<-a4.1];exact d1) YQ);have r4: ∀i,i<n->i≠j->Lr i≠Lr j:=λi hi r5 e=>T.inj i j hi z r5 (f.bQ.inj _ _ _ _ _ (K.links i hi) (by rw[e];exact K.links j z) YQ YQ);have hp:Kd F6 (λx=>0<ns j/\x=Lr j) (kT ns Lr n (j + 1)):=⟨c4.cl,λb hb=>c4.kw b ⟨j,Nat.le_refl _,z,hb⟩,λb ⟨i,h1,h2,h3⟩=>c4.kw b ⟨i,YP,h2,h3⟩,λb hb ⟨i,h1,h2,h3⟩=>r4 i h2 YP (h3.2.symm.trans hb.2)⟩;have a5: ∀x,((0<ns j/\x=Lr j)\/kT ns Lr n (j + 1) x)-> ∃i,i<n/\0<ns i/\x=Lr i:=λx h=>by
   rcases h with h | ⟨i,_,h2,h3⟩
   ·exact ⟨j,z,h⟩
   ·exact ⟨i,h2,h3⟩
  have a0: ∀b,J<=b-> ∀i,i<n->0<ns i->b≠L i:=λb hb i hi _=>by have:=(T.JE i hi).1;omega
  unfold wS;refine kY (L:=λ_ _=>True) (Wc:=λx=>0<ns j/\x=Lr j) (KW:=kT ns Lr n (j + 1)) f h0 hp (λb ob hb=>⟨λe=>h8 b ob hb j z e.2,λ⟨i,_,h2,h3⟩=>h8 b ob hb i h2 h3.2⟩) (λx Z=>by obtain ⟨i,hi,_,rfl⟩:=a5 x Z;exact ⟨L i,K.links i hi⟩) (λ_ _ _ _ _=>trivial) rfl rfl rfl ((g4.ev g5.s8).at K.Gz) j8 (λw4 A' B' r7 j9=> ?_) λo k0=> ?_
  ·exact Bi (X:=Yp ns Gn g X j) (nm:=λt=>t) h0 j9 r7 r3 (K.seen f.bQ (λx Z=>a5 x (.inr Z)) q7 (a0 _ q8)) (K.seen f.bQ (λx Z=>a5 x (.inr Z)) q4 (a0 _ j6)) (K.seen f.bQ (λx Z=>a5 x (.inr Z)) j0 (a0 _ d2)) j4 j1 q9 j7
    (K.Jx T f.bQ (λx Z=>a5 x (.inr Z)) (Nat.le_refl _) z (λh=>⟨h,rfl⟩)) (h7 j z) (λt u _ h=>by rw[hV]at h;exact h) (λt u _ h=>by rw[hV];exact h)
  ·have b2:=f.bQ;replace f:=k0;have k1:=K.next T b2 z (W:=kT ns Lr n (j + 1)) (λ_ h=>h);have k2:FK (fX F6 (λx=>0<ns j/\x=Lr j) (kT ns Lr n (j + 1))) ns Lr n (j + 1):=⟨λ_ _ h=>h,λx Z=>⟨Z,(hp.kw x Z).2,λe=>hp.lN x e Z⟩⟩;have sn: ∀ {b:Nat}{u:Value},v6.cell? ⟨b,0,none⟩=S u->(∀i,i<n->0<ns i->b≠L i)->(dL a3 (λx=>0<ns j/\x=Lr j) (kT ns Lr n (j + 1)) v6).cell? ⟨b,0,none⟩=S u:=λh ho=>K.seen b2 (λx Z=>a5 x (.inl Z)) h ho;have k3:=sn j3 d7;have d3:=sn j0 (a0 _ d2);have g6:J<=(dL a3 (λx=>0<ns j/\x=Lr j) (kT ns Lr n (j + 1)) v6).heap.size:=by rw[bq];exact j2
   have g7:=aB.set (i:=36) g4 (VR.unit (ρ:=a3));have g8:=g5.put (d:=36) (u:= .tuple #[]) YQ;have d4:((x6.setIfInBounds 35 .nilFunc).setIfInBounds 36 (.tuple #[]))[14]? =S (ptr g1):=ab (ab i9 YQ) YQ;have r8:=j4;have s0:=q5;change aa _ _ _ _ _ _ _ _ _ _ _ (G (ak _ ((y6.setIfInBounds 35 (.func (.func 35) #[] s)).setIfInBounds 36 (.tuple #[])) _) _) _;generalize dL a3 (λx=>0<ns j/\x=Lr j) (kT ns Lr n (j + 1)) v6=v8 at f k1 k3 d3 g6;generalize (x6.setIfInBounds 35 .nilFunc).setIfInBounds 36 (.tuple #[])=x8 at g7 g8 d4;generalize (y6.setIfInBounds 35 (.func (.func 35) #[] s)).setIfInBounds 36 (.tuple #[])=y8 at g7 ⊢;generalize fX F6 (λx=>0<ns j/\x=Lr j) (kT ns Lr n (j + 1))=F8 at f k2 ⊢;clear K c4 j2 j3 a4 j5 g4 g5;refine aa.aH f λo f=> ?_;refine aa.aC f λo f=> ?_;refine aa.fP (i:=0) (R:=λu N=>u= .chan (S b1)/\N.heap=v8.heap) bh ⟨_,Try.func16⟩ Zo rfl rfl Zn YU YU f g7 (λtp=>aL (gS rfl (ay d4) (zJ d3)) ⟨rfl,rfl⟩) ?_;rintro u7 y9 v9 o F9 u9 c5 s1 ⟨rfl,k4⟩ f s2;have g9:=dV.of (ar.heap k4) g6;have s3:=k1.low T c5.w g9;have s4:=k2.le s1;have k5:=Nat.le_trans g6 g9.1;have s5:=g9.cell C k3;have u8:=c5 _ _ r8;have s6:=c5 _ _ s0;have s7:=g8.put (d:=37) (u:= .chan (S b1)) YQ;have s8:=c5 _ _ j1;refine aa.fP (i:=1) (R:=λu N=>u= .chan (S b1)/\N.heap=v9.heap) bh ⟨_,Try.func16⟩ Zo rfl rfl Zn YU YU f s2 (λtp=>jj rfl (ay (aE g8.sz YQ)) ⟨rfl,rfl⟩) ?_;rintro t4 v0 s9 o v7 w0 b3 k6 ⟨rfl,h4⟩ f k7;have b4:=dV.of (ar.heap h4) k5;have k8:=s3.low T b3.w b4;have k9:=s4.le k6;have d5:=Nat.le_trans k5 b4.1;have l0:=b4.cell C s5;have l1:=b3 _ _ s8;have l2:=b3 _ _ s6;have b5:=s7.SZ (c:=b1);refine aa.aH f λo f=> ?_;refine aa.cd f λo f=> ?_;refine aa.aC f λo f=> ?_;refine aa.fP (i:=0) (R:=λu N=>u= J9 K1 ((j + 1:Nat):Int)/\N.heap=s9.heap) bh ⟨_,Try.func16⟩ Zo rfl rfl Zn YU YU f k7 (λtp=>aL (PH rfl (ay b5.LY) rfl YP) ⟨rfl,rfl⟩) ?_;rintro t5 w1 t0 o w2 w3 b6 l3 ⟨rfl,h5⟩ f l4;have b7:=dV.of (ar.heap h5) d5;have l5:=k8.low T b6.w b7;have l6:=k9.le l3;have d6:=Nat.le_trans d5 b7.1;have l7:=b7.cell C l0;have l8:=b6 _ _ l1;have l9:=b6 _ _ l2;have m0:=b5.put (d:=38) (u:= J9 K1 ((j + 1:Nat):Int)) YQ;refine aa.fP (i:=1) (R:=λu N=>u= J9 K1 ((j + 1:Nat):Int)/\N.heap=t0.heap) bh ⟨_,Try.func16⟩ Zo rfl rfl Zn YU YU f l4 (λtp=>aJ rfl (ay (aE b5.sz YQ)) ⟨rfl,rfl⟩) ?_;rintro m1 t1 t2 o t3 w5 b8 m2 ⟨rfl,h6⟩ f m3;have b9:=dV.of (ar.heap h6) d6;have m4:=l5.low T b8.w b9;have m5:=l6.le m2;have m6:=Nat.le_trans d6 b9.1;have m7:=b9.cell C l7;have m8:=b8 _ _ l8;have m9:=b8 _ _ l9;have n0:=m0.QX (k:=j + 1);refine aa.aH f λo f=> ?_;refine aa.dw f λo f=> ?_;rw[g0,<-a1];exact ih (j + 1) r6 _ m1 t2 t3 o _ t1 b1 X1 YP f m4 m5 m6 n0 m7 m8 m9 j7 r1 r2 m3
end
noncomputable def ki:G0:=match xh with | .seq _ (.seq _ (.seq (.seq _ (.block _ (.loop c))) _))=>c | _=> .skip
noncomputable def NO:G0:=match xh with | .seq _ (.seq _ (.seq _ c))=>c | _=> .skip
def iB (v:World)(g t m:Nat)(Y:Nat->C2):Prop:= ∃a,v.ownsRow 0 26 1 (K3 (S ⟨g,0,none⟩) t m) t a/\ ∀j,j<t-> ∃u,a[j]? =S u/\aS u (Y j)
theorem iB.block{g t:Nat}(h:iB v g t m X): ∃c,v.heap[g]? =S (.cells c 26 (0,0))/\c.size=m/\ ∀j,j<t-> ∃u,c[j]? =S u/\aS u (X j):=by
 obtain ⟨f,a,i⟩:=h;rcases a.2 with ⟨e,_⟩ | ⟨k,b,d,e,_,l,n,_,o,p⟩
 ·cases e
 grind
theorem iB.low {v':World}{g t:Nat}{Y:Nat->C2}(h:iB v g t m Y)(k:ar v v'):iB v' g t m Y:=by
 obtain ⟨c,p,_⟩:=h.block;obtain ⟨j,d,l⟩:=h;refine ⟨j,⟨d.1,?_⟩,l⟩;rcases d.2 with ⟨e,_⟩ | ⟨q,a,b,e,n,f,o⟩
 ·cases e
 ·have i:=e;simp only[D6,G9,I9]at i;obtain ⟨⟨rfl,_⟩,_⟩:=i;exact .inr ⟨g,a,b,e,n,by rw[k.2 _ (aG f)];exact f,o⟩
theorem iB.IP(h:iB v n m m X):dy v n m X/\Ends v n m:=by obtain ⟨c,a,b,d⟩:=h.block;refine ⟨λj e=> ?_,c,_,_,a,b⟩;obtain ⟨u,f,g⟩:=d j e;exact ⟨u,zp R a f,g⟩
def GB (v a:World)(g:Nat):Prop:=v.heap.size<=a.heap.size/\ ∀b,b<v.heap.size->b≠g->a.heap[b]? =v.heap[b]?
theorem iB.ty{g t':Nat}{i:Nat->C2}(h:iB v g n m X)(j:iB w g t' A i)(k:GB v w g):Ty v w:=λb c e f a=>by
 by_cases d:b=g
 ·subst d;obtain ⟨l,o,_⟩:=h.block;obtain ⟨p,q,_⟩:=j.block;grind
 ·exact ⟨c,f,by rw[k.2 b (aG a) d];exact a⟩
structure GQ (x:Array x9)(bG g c9 t m:Nat):Prop where
 sz:x.size=54
 s8:x[8]? =S (ptr bG)
 fR:x[15]? =S (K3 (S ⟨g,0,none⟩) t m)
 Qi:x[44]? =S (.chan (S c9))
theorem GQ.put{bG g c9 t d:Nat}(h:GQ y bG g c9 t m)(a:(d !=8 && d !=15 && d !=44)=true):GQ (y.setIfInBounds d u) bG g c9 t m:=by simp only[I1,bne_iff_ne]at a;exact ⟨by simpa using h.sz,ab h.s8 a.1.1,ab h.fR a.1.2,ab h.Qi a.2⟩
theorem GQ.QW{t':Nat}(h:GQ y n A J L m):GQ (y.setIfInBounds 15 (K3 (S ⟨A,0,none⟩) t' m)) n A J t' m:=
 ⟨by simpa using h.sz,ab h.s8 YQ,aE h.sz YQ,ab h.Qi YQ⟩
theorem Mx(a:o.op= .extract x 0)(b:f x= .tuple #[u,Y]):(w8 f o).run Try.prog w= .ok (.value u) w:=by unfold w8;simp only[a,b];go_simp
theorem Gd(a:o.op= .extract x 1)(b:f x= .tuple #[u,Y]):(w8 f o).run Try.prog w= .ok (.value Y) w:=by unfold w8;simp only[a,b];go_simp
theorem qC(a:o.op= .buildSlice 24 1 #[(0,x)])(b:f x= J7 J8 n m):(w8 f o).run Try.prog w= .ok (.value (K3 (S ⟨w.heap.size,0,none⟩) 1 1)) (w.alloc (.cells #[J7 J8 n m] 26)):=by unfold w8;simp only[a,D9,G4,H7,b];go_simp
theorem Mv(d:o.op= .call {callee:= .builtin .append,args:= #[x,Z],argTypes:= #[24,24]})(h:f x= K3 (S ⟨n,0,none⟩) A m)(i:f Z= K3 (S ⟨J,0,none⟩) 1 1)(a:w.ownsRow 0 26 1 (K3 (S ⟨n,0,none⟩) A m) A j)(k:w.cell? ⟨J,0,none⟩=S (J7 J8 L O))(l:A + 1<=m):
  ∃b,(w8 f o).run Try.prog w= .ok (.value (K3 (S ⟨n,0,none⟩) (A + 1) m)) b/\b.ownsRow 0 26 1 (K3 (S ⟨n,0,none⟩) (A + 1) m) (A + 1) (j ++ [J7 J8 L O])/\w.grownBy b (S n):=by
 obtain ⟨p,q,_,e,_⟩:=B1 fY;obtain ⟨b,r,s,t⟩:=run_append_fits (P:=Try.prog) (w:=w) 0 24 o.type 26 p 1 Try.underlying24 q e n A m j a ⟨J,0,none⟩ 1 1 [J7 J8 L O] R (λg u c=>by
  rcases g with _ | g
  ·cases c;exact k
  ·cases c) (λu c=>by simp at c;subst c;rfl) l
 refine ⟨b,?_,s,t⟩;unfold w8;simp only[d];simp[resolve,invoke,builtin,h,i,r,I7]
theorem Ab{R:x9->World->Prop}{p p':Nat}(c:o.op= .call {callee:= .builtin .append,args:= #[x,Z],argTypes:= #[24,24]})(d:M.eval x= K3 (S ⟨n,0,none⟩) A m)(e:M.eval Z= K3 (S ⟨J,0,none⟩) 1 1)(a:w.ownsRow 0 26 1 (K3 (S ⟨n,0,none⟩) A m) A j)(f:w.cell? ⟨J,0,none⟩=S (J7 J8 p p'))(g:A + 1<=m)
  (h: ∀b,b.ownsRow 0 26 1 (K3 (S ⟨n,0,none⟩) (A + 1) m) (A + 1) (j ++ [J7 J8 p p'])->w.grownBy b (S n)->R (K3 (S ⟨n,0,none⟩) (A + 1) m) b):bD Try.prog o M w R:=by
 obtain ⟨b,i,k,l⟩:=Mv c d e a f g;exact aL i (h b k l)
section
variable {val:cH}{iS:aU}{vb:World}{Y:Nat->C2}{bG g c9 X9:Nat}
theorem Ar {ρ:aU}(a b:Nat)(q:Bool):VR ρ (C4 true (J7 J8 a b) q) (C4 true (J7 J8 a b) q):=Plain.vr (.tuple R λi x y c d=>by
 rcases i with _ | _ | i
 ·cases c;cases d;exact .complex _ _ _
 ·cases c;cases d;exact .bool _
 ·cases c) ρ
theorem Bm (hV: ∀t u,E.V n t u->aS u (Y t))(r9:z n=S X9)
  (b4: ∀ (ρ:aU)(v:World)(F:aq)(w:World)(x y:Array Value),At E ρ v F val w->Ty vb v->Wx iS ρ->iB v g m m Y->GQ x bG g c9 m m->ρ[bG]? =S (E.Wg,.cells)->aB ρ x y->aa Try.prog E true (mC Try.prog E) D a 0 z r (.work false [] []) F (G (ak 16 y [.code NO]) l) w):
  ∀ (q t:Nat)(f:aU)(v0:World)(F0:aq)(w:World)(x0 y0:Array Value),t + q=m->At E f v0 F0 val w->Ty vb v0->Wx iS f->iB v0 g t m Y->GQ x0 bG g c9 t m->f[c9]? =S (X9,.chan)->f[bG]? =S (E.Wg,.cells)->aB f x0 y0->
   aa Try.prog E true (mC Try.prog E) D a 0 z r (.work false [] (zP n q t)) F0 (G (ak 16 y0 [.code ki,.inLoop ki,.inBlock 2,.code NO]) l) w:=by
 intro q;induction q with
 | zero=>
  intro t f v0 F0 w x0 y0 hq c a0 a1 a2 e N a3 s;have c6:t=m:=YP;subst c6;have I:ki=ki:=rfl;conv at I=>rhs;unfold ki xh;simp only[Try.f16]
  rw[I];unfold zP;refine aa.ah c λw c=> ?_;refine aa.aC c λw c=> ?_;refine aa.JN (i:=0) (t:=102) c rfl rfl rfl (.inl rfl) rfl ((s.ev e.Qi).tY N) r9 λw c=> ?_;have O:=aB.set (i:=45) s (Ar (ρ:=f) 0 0 false);have K:=e.put (d:=45) (u:=recvd true tX false) YQ;have A:(x0.setIfInBounds 45 (recvd true tX false))[45]? =S (recvd true tX false):=aE e.sz YQ;refine aa.fP (i:=1) (R:=λu o=>u= .bool false/\o.heap=v0.heap) bh ⟨_,Try.func16⟩ Zo rfl rfl Zn YU YU c O (λM=>aL (Gd rfl (ay A)) ⟨rfl,rfl⟩) ?_;rintro a4 y2 v2 w F2 u2 J c7 ⟨rfl,B⟩ c P;refine aa.aH c λw c=> ?_;refine aa.ah c λw c=> ?_;refine aa.go c YR (λ_=>bH (P.bool (aE K.sz YQ))) λw c=> ?_;simp only[A8, ↓reduceIte];refine aa.go c YR (λ_=>fe rfl) λw c=> ?_;exact b4 a4 v2 F2 w _ y2 c (a0.trans (Ty.low (ar.heap B))) (λb k h=>J _ _ (a1 b k h)) (a2.low (ar.heap B)) (K.put (d:=46) YQ) (J _ _ a3) P
 | succ q ih=>
  intro t f v0 F0 w x0 y0 hq c a0 a1 a2 e N a3 s;have I:ki=ki:=rfl;conv at I=>rhs;unfold ki xh;simp only[Try.f16]
  rw[I];unfold zP;refine aa.ah c λw c=> ?_;refine aa.aC c λw c=> ?_;refine aa.EX (i:=0) (t:=102) c rfl rfl rfl (.inl rfl) rfl ((s.ev e.Qi).tY N) r9 λw k c hz=> ?_;have hx:=hV t k hz;obtain ⟨C,H,rfl,_⟩:=id hx;have a5:=aB.set (i:=45) s (Ar (ρ:=f) C H true);have b5:=e.put (d:=45) (u:=recvd true (J7 J8 C H) true) YQ;have A:(x0.setIfInBounds 45 (recvd true (J7 J8 C H) true))[45]? =S (recvd true (J7 J8 C H) true):=aE e.sz YQ;generalize x0.setIfInBounds 45 (recvd true (J7 J8 C H) true)=xa at a5 b5 A;generalize y0.setIfInBounds 45 (recvd true (J7 J8 C H) true)=ya at a5 ⊢;clear s e;have s:=a5;have e:=b5;refine aa.fP (i:=1) (R:=λu o=>u= .bool true/\o.heap=v0.heap) bh ⟨_,Try.func16⟩ Zo rfl rfl Zn YU YU c s (λM=>aL (Gd rfl (ay A)) ⟨rfl,rfl⟩) ?_;rintro d0 y1 v1 w F1 u1 a6 i7 ⟨rfl,Q⟩ c O;have d1:=a0.trans (Ty.low (ar.heap Q));have d2:Wx iS d0:=λb k h=>a6 _ _ (a1 b k h);have d3:=a2.low (ar.heap Q);have d4:=a6 _ _ N;have d5:=a6 _ _ a3;have K:=e.put (d:=46) (u:= .bool true) YQ;refine aa.aH c λw c=> ?_;refine aa.ah c λw c=> ?_;refine aa.go c YR (λ_=>bH (O.bool (aE e.sz YQ))) λw c=> ?_;simp only[if_true];refine aa.dh c λw c=> ?_;refine aa.aV c λw c=> ?_;refine aa.ah c λw c=> ?_;refine aa.aC c λw c=> ?_;refine aa.fP (i:=0) (R:=λu o=>u= J7 J8 C H/\o.heap=v1.heap) bh ⟨_,Try.func16⟩ Zo rfl rfl Zn YU YU c O (λM=>aL (Mx rfl (ay (ab A YQ))) ⟨rfl,rfl⟩) ?_;rintro a4 y2 v2 w F2 u2 J c7 ⟨rfl,B⟩ c P;have d6:=d1.trans (Ty.low (ar.heap B));have d7:Wx iS a4:=λb k h=>J _ _ (d2 b k h);have d8:=d3.low (ar.heap B);have d9:=J _ _ d4;have e0:=J _ _ d5;have b6:=K.put (d:=47) (u:= J7 J8 C H) YQ;refine aa.fP (i:=1) (R:=λu o=>u= J7 J8 C H/\o.heap=v2.heap) bh ⟨_,Try.func16⟩ Zo rfl rfl Zn YU YU c P (λM=>jj rfl (ay (aE K.sz YQ)) ⟨rfl,rfl⟩) ?_;rintro e1 y3 v3 w F3 u3 a7 i8 ⟨rfl,T⟩ c e2;have e3:=d6.trans (Ty.low (ar.heap T));have e4:Wx iS e1:=λb k h=>a7 _ _ (d7 b k h);have e5:=d8.low (ar.heap T);have e6:=a7 _ _ d9;have e7:=a7 _ _ e0;have a8:=b6.put (d:=16) (u:= J7 J8 C H) YQ;refine aa.aH c λw c=> ?_;refine aa.aC c λw c=> ?_;refine aa.fP (i:=0) (R:=λu o=>u= K3 (S ⟨g,0,none⟩) t m/\o.heap=v3.heap) bh ⟨_,Try.func16⟩ Zo rfl rfl Zn YU YU c e2 (λM=>aJ rfl (ay a8.fR) ⟨rfl,rfl⟩) ?_;rintro e8 y4 v4 w F4 u4 a9 i9 ⟨rfl,V⟩ c e9;have f0:=e3.trans (Ty.low (ar.heap V));have f1:Wx iS e8:=λb k h=>a9 _ _ (e4 b k h);have f2:=e5.low (ar.heap V);have f3:=a9 _ _ e6;have f4:=a9 _ _ e7;have b7:=a8.put (d:=48) (u:= K3 (S ⟨g,0,none⟩) t m) YQ;refine aa.fP (i:=1) (R:=λu o=>u= J7 J8 C H/\o.heap=v4.heap) bh ⟨_,Try.func16⟩ Zo rfl rfl Zn YU YU c e9 (λM=>aJ rfl (ay (ab (aE b6.sz YQ) YQ)) ⟨rfl,rfl⟩) ?_;rintro f5 y5 v5 w F5 u5 b0 j0 ⟨rfl,W⟩ c f6;have f7:=f0.trans (Ty.low (ar.heap W));have f8:Wx iS f5:=λb k h=>b0 _ _ (f1 b k h);have f9:=f2.low (ar.heap W);have g0:=b0 _ _ f3;have g1:=b0 _ _ f4;have b8:=b7.put (d:=49) (u:= J7 J8 C H) YQ;refine aa.fP (i:=2) (R:=λu o=>u= K3 (S ⟨v5.heap.size,0,none⟩) 1 1/\o.heap=v5.heap.push (.cells #[J7 J8 C H] 26)) bh ⟨_,Try.func16⟩ Zo rfl rfl Zn YU YU c f6 (λM=>aL (qC rfl (ay (aE b7.sz YQ))) ⟨rfl,rfl⟩) ?_;rintro g4 y6 v6 w F6 u6 b1 j1 ⟨rfl,L⟩ c g5;have g6:=f7.trans (Ty.low (ar.push L));have g7:Wx iS g4:=λb k h=>b1 _ _ (f8 b k h);have b9:=f9.low (ar.push L);have g8:=b1 _ _ g0;have g9:=b1 _ _ g1;have c1:=b8.put (d:=50) (u:= K3 (S ⟨v5.heap.size,0,none⟩) 1 1) YQ;have h0:=Bx.new L;refine aa.fP (i:=3) (R:=λu o=>u= K3 (S ⟨g,0,none⟩) (t + 1) m/\iB o g (t + 1) m Y/\GB v6 o g) bh ⟨_,Try.func16⟩ Zo rfl rfl Zn YU YU c g5 (λM=>(by
     obtain ⟨xs,X,h1⟩:=b9;refine Ab (p:=C) (p':=H) rfl (ay (ab (ab (aE a8.sz YQ) YQ) YQ)) (ay (aE b8.sz YQ)) (show (aK v6 M 0).ownsRow 0 26 1 (K3 (S ⟨g,0,none⟩) t m) t xs from X) (show (aK v6 M 0).cell? ⟨v5.heap.size,0,none⟩=S (J7 J8 C H)from h0.cell) YP λw' g2 g3=>⟨rfl,⟨_,g2,λj hj=> ?_⟩,g3.size,λb hb j2=>g3.block b hb YS⟩;have c2:xs.length=t:=by have:=X.1;omega
     by_cases h2:j<t
     ·obtain ⟨u,hu,hc⟩:=h1 j h2;exact ⟨u,by rw[D2 YP];exact hu,hc⟩
     ·have:j=t:=by omega
      subst this;exact ⟨_,by rw[List.getElem?_append_right YP,c2,Nat.sub_self];rfl,hx⟩)) ?_
  rintro h3 y7 v7 w F7 u7 b2 j3 ⟨rfl,c3,c4⟩ c h4;have h5:=g6.trans (b9.ty c3 c4);have h6:Wx iS h3:=λb k h=>b2 _ _ (g7 b k h);have h7:=b2 _ _ g8;have h8:=b2 _ _ g9;have h9:=c1.put (d:=51) (u:= K3 (S ⟨g,0,none⟩) (t + 1) m) YQ;refine aa.fP (i:=4) (R:=λu o=>u= K3 (S ⟨g,0,none⟩) (t + 1) m/\o.heap=v7.heap) bh ⟨_,Try.func16⟩ Zo rfl rfl Zn YU YU c h4 (λM=>jj rfl (ay (aE c1.sz YQ)) ⟨rfl,rfl⟩) ?_;rintro c5 y8 v8 w F8 u8 b3 j4 ⟨rfl,Z⟩ c i0;have i1:=h5.trans (Ty.low (ar.heap Z));have i2:Wx iS c5:=λb k h=>b3 _ _ (h6 b k h);have i3:=c3.low (ar.heap Z);have i4:=b3 _ _ h7;have i5:=b3 _ _ h8;have i6:=h9.QW (t':=t + 1);refine aa.aH c λw c=> ?_;refine aa.cd c λw c=> ?_;refine aa.dw c λw c=> ?_;rw[<-I];exact ih (t + 1) c5 v8 F8 w _ y8 YP c i1 i2 i3 i6 i4 i5 i0
end
section
open Go.Conc.Lib
theorem oq(a:o.op= .call {callee:= .builtin .len,args:= #[x],argTypes:= #[t]})(b:f x= .slice e n m)(c:Try.prog.underlying t=S (.slice (Try.prog.elem t))):(w8 f o).run Try.prog w= .ok (.value (J9 K1 n)) w:=by have d:=run_len_slice (P:=Try.prog) (w:=w) t o.type e n m c;unfold w8;simp[a,resolve,invoke,builtin,b,d,I7,goInt]
theorem gq(h:w.cell? Q=S (.slice e n m)):(C5 24 (.pointer (S Q))).run Try.prog w= .ok (.slice e n m) w:=Zq
theorem IV{R:x9->World->Prop}(b:o.op= .makeSlice 24 (.const (J9 K1 0)) x)(e:M.eval x= J9 K1 m)(p:m<=1000000)
  (h: ∀a,a.ownsRow 0 26 1 (K3 (S ⟨w.heap.size,0,none⟩) 0 m) 0 []->w.grownBy a none->R (K3 (S ⟨w.heap.size,0,none⟩) 0 m) a):bD Try.prog o M w R:=by
 obtain ⟨f,g,c,d,i⟩:=B1 fY;obtain ⟨a,j,k,l⟩:=run_make_own (P:=Try.prog) (w:=w) 0 24 26 f _ 1 Try.underlying24 g c d .i64 .i64 m YS Zp (J5 _);refine aL ?_ (h a k l);unfold w8;have n:M.eval (.const (J9 K1 0))= J9 K1 0:=rfl;simp[b,n,e,j]
theorem ar.grown(h:v.grownBy w none):ar v w:=⟨h.size,λb a=>h.block b a YR⟩
section
variable {r:ca}{lg:List bC}{val:cH}{c:Frame}{mg ρ:aU}{v0:World}{F0:aq}{w0:World}{ns:Nat->Nat}{Gn:Nat->C2}{sec:Nat->Nat->dM}{L Lr:Nat->Nat}{bL bG bF b0 X0 c9 X9:Nat}{x:Array Value}
theorem Bn (hV:V=Vp ns Gn sec X)(hm:m<=1000000)(P:At (E0 T) mg v0 F0 bO w0)(i1:J=w0.heap.size)(f1:fT mg)(f2: ∀b,F0.rd b->val.bk b=w0.heap[b]?)
  (hL:v0.cell? ⟨bL,0,none⟩=S (.slice e m O))(hl:bj v0 (.slice e m O) m X)
  (hK: ∀a5 o F' w' b z,Ext mg a5->At (E0 (T.add J)) a5 o F' bO w'->aA v0 o->dy o b m (Yp ns Gn sec X n)->VR a5 (K3 (S ⟨b,0,none⟩) m m) z->cO a (T.add J) F' (G (c.finish (.tuple #[z,J9 K1 0])) l) w')
  (f:At (E1 V T J) ρ v F val w)(hJ:gy (E1 V T J) mg v0 n A ns Gn sec B L Lr bG n ρ v)(f3:FK F ns Lr n n)(hX:zi x bL bG bF A n c9 n)(hf:v.cell? ⟨bF,0,none⟩=S (.chan (S b0)))(f4:ρ[c9]? =S (X9,.chan))(f5:ρ[b0]? =S (X0,.chan))(r9:r n=S X9)(r0:r 0=S X0)(hv:aB ρ x y):
  aa Try.prog (E1 V T J) true (mC Try.prog (E1 V T J)) (λ_ _=>True) (Way Try.prog a (T.add J)) 0 r lg (.work false [jV 0 m 0] (zP n m 0)) F (G (ak 16 y [.code xh]) (c::l)) w:=by
 have b9:xh=xh:=rfl;have eL:ki=ki:=rfl;have eU:NO=NO:=rfl;conv at b9=>rhs;unfold xh;simp only[Try.f16]
 conv at eL=>rhs;unfold ki xh;simp only[Try.f16]
 conv at eU=>rhs;unfold NO xh;simp only[Try.f16]
 rw[b9];refine aa.ah f λw f=> ?_;refine aa.aC f λw f=> ?_;refine aa.go f YR (λ_=>qi (d:=39) rfl rfl rfl rfl) λw f=> ?_;obtain ⟨k,C⟩: ∃k,k=(#[.tmp 3,.tmp 10]:Array B4).map (x7 ⟨y,[]⟩):=⟨_,rfl⟩;have f6:aB ρ #[ptr bL,ptr bF] k:=by rw[C];exact rf (hv.ev hX.s3) (hv.ev hX.oy)
 rw[<-C];have a6:=aB.set (i:=39) hv (VR.qH (r:=ρ) (.func (.func 37) #[] k) trivial);have a7:=hX.put (d:=39) (u:= .nilFunc) YQ;have c1:x7 ⟨y.setIfInBounds 39 (.func (.func 37) #[] k),[]⟩ (.tmp 39)= .func (.func 37) #[] k:=ay (aE (n:=54) (by rw[<-hv.1];exact hX.sz) YQ);have sn: ∀ {X W:Nat->Prop}{a8:Addr}{u:Value},(∀x,¬X x)->v.cell? a8=S u->(dL ρ X W v).cell? a8=S u:=λhx h=>bz h λx _=>hx x;refine kY (L:=λ_ _=>True) (Wc:=λ_=>False) (KW:=λ_=>False) f trivial ⟨f3.cl,λ_ h=>h.elim,λ_ h=>h.elim,λ_ h=>h.elim⟩ (λ_ _ _=>⟨λh=>h,λh=>h⟩) (λx hx=>YS) (λ_ _ _ _ _=>trivial) rfl rfl rfl ((a6.ev a7.s8).at hJ.Gz) c1 (λw4 A' B' f7 c2=> ?_) λw c3=> ?_
 ·have hg:aA v0 (dL ρ (λ_=>False) (λ_=>False) v):=hJ.old.trans ⟨by rw[bq];omega,λa8 u h=>sn (λ_ h=>h) h⟩;exact Bj (E:=E1 V T J) trivial c2 f7 f6 (hg.2 _ _ hL) (sn (λ_ h=>h) hf) f5 r0 (hl.av hg) hm (λt u _ h=>by show V 0 t u;rw[hV];exact h)
 replace f:=c3;have c4:Ty v0 (dL ρ (λ_=>False) (λ_=>False) v):=hJ.ty.trans (Ty.ex _ _ _ _);have c5:=sn (X:=λ_=>False) (W:=λ_=>False) (λ_ h=>h) (hJ.old.2 _ _ hL);generalize dL ρ (λ_=>False) (λ_=>False) v=v1 at f c4 c5;generalize fX F (λ_=>False) (λ_=>False)=F1 at f ⊢;have Q:=aB.set (i:=40) a6 (VR.unit (ρ:=ρ));have D:=a7.put (d:=40) (u:= .tuple #[]) YQ;generalize (x.setIfInBounds 39 .nilFunc).setIfInBounds 40 (.tuple #[])=x2 at Q D;refine aa.aH f λw f=> ?_;show aa _ _ _ _ _ _ _ _ _ _ _ (G (ak 16 ((y.setIfInBounds 39 (.func (.func 37) #[] k)).setIfInBounds 40 (.tuple #[])) _) _) _;generalize (y.setIfInBounds 39 (.func (.func 37) #[] k)).setIfInBounds 40 (.tuple #[])=y2 at Q ⊢;refine aa.ah f λw f=> ?_;refine aa.aC f λw f=> ?_;refine aa.fP (i:=0) (R:=λu o=>u= .slice e m O/\o.heap=v1.heap) bh ⟨_,Try.func16⟩ Zo rfl rfl Zn YU YU f Q (λtp=>aL (gS rfl (ay D.s3) (gq (show (aK v1 tp 0).cell? _=_ from c5))) ⟨rfl,rfl⟩) ?_;rintro i2 y3 v3 w F3 u3 f8 i3 ⟨rfl,c6⟩ f c7;have a9:=D.put (d:=41) (u:= .slice e m O) YQ;refine aa.fP (i:=1) (R:=λu o=>u= J9 K1 m/\o.heap=v3.heap) bh ⟨_,Try.func16⟩ Zo rfl rfl Zn YU YU f c7 (λtp=>aL (oq rfl (ay (aE D.sz YQ)) rfl) ⟨rfl,rfl⟩) ?_;rintro i4 y4 s w F4 u4 f9 i5 ⟨rfl,d0⟩ f d1;have b1:=a9.put (d:=42) (u:= J9 K1 m) YQ;refine aa.fP (i:=2) (R:=λu o=>u= K3 (S ⟨s.heap.size,0,none⟩) 0 m/\(∃z:World,z.heap=o.heap/\z.ownsRow 0 26 1 (K3 (S ⟨s.heap.size,0,none⟩) 0 m) 0 []/\(ar s z))) bh ⟨_,Try.func16⟩ Zo rfl rfl Zn YU YU f d1 (λtp=>IV (w:=aK s tp 0) rfl (ay (aE a9.sz YQ)) hm λw' h1 h2=>⟨rfl,w',rfl,h1,ar.grown (v:=aK s tp 0) h2⟩) ?_;rintro i6 y5 v5 w F5 u5 g0 i7 ⟨rfl,z5,b2,b3,H⟩ f d2;have g1:ar s v5:=⟨by rw[<-b2];exact H.1,λb P=>by rw[<-b2];exact H.2 b P⟩;have d3:iB v5 s.heap.size 0 m (Yp ns Gn sec X n):=iB.low (v:=z5) ⟨[],b3,λj hj=>absurd hj (Nat.not_lt_zero _)⟩ (ar.heap b2.symm);have b4:=b1.put (d:=43) (u:= K3 (S ⟨s.heap.size,0,none⟩) 0 m) YQ;refine aa.fP (i:=3) (R:=λu o=>u= K3 (S ⟨s.heap.size,0,none⟩) 0 m/\o.heap=v5.heap) bh ⟨_,Try.func16⟩ Zo rfl rfl Zn YU YU f d2 (λtp=>jj rfl (ay (aE b1.sz YQ)) ⟨rfl,rfl⟩) ?_;rintro i8 y6 v6 w F6 u6 g2 i9 ⟨rfl,a0⟩ f d4;have I:=b4.put (d:=15) (u:= K3 (S ⟨s.heap.size,0,none⟩) 0 m) YQ;have a1:=aE (u:= K3 (S ⟨s.heap.size,0,none⟩) 0 m) b4.sz (show 15<54 by decide);refine aa.aH f λw f=> ?_;refine aa.ah f λw f=> ?_;refine aa.ah f λw f=> ?_;refine aa.aC f λw f=> ?_;refine aa.fP (i:=0) (R:=λu o=>u= .chan (S c9)/\o.heap=v6.heap) bh ⟨_,Try.func16⟩ Zo rfl rfl Zn YU YU f d4 (λtp=>aJ rfl (ay I.s9) ⟨rfl,rfl⟩) ?_;rintro d5 y7 v7 w F7 u7 g3 j0 ⟨rfl,a2⟩ f d6;have d7:GQ _ bG s.heap.size c9 0 m:=⟨(I.put (d:=44) (u:= .chan (S c9)) YQ).sz,ab I.s8 YQ,ab a1 YQ,aE I.sz YQ⟩;have K:Wx ρ d5:=λb z h=>g3 _ _ (g2 _ _ (g0 _ _ (f9 _ _ (f8 _ _ h))));have a3:=((((c4.trans (Ty.low (ar.heap c6))).trans (Ty.low (ar.heap d0))).trans (Ty.low g1)).trans (Ty.low (ar.heap a0))).trans (Ty.low (ar.heap a2));have d8:=(d3.low (ar.heap a0)).low (ar.heap a2);refine aa.aH f λw f=> ?_;refine aa.aV f λw f=> ?_;refine aa.dO f λw f=> ?_;rw[<-eL,<-eU];refine Bm (E:=E1 V T J) (iS:=mg) (vb:=v0) (bG:=bG) (g:=s.heap.size) (c9:=c9) (X9:=X9) (m:=m) (Y:=Yp ns Gn sec X n) (λt u h=>by change V n t u at h;rw[hV]at h;exact h) r9 ?_ m 0 d5 v7 F7 w _ y7 YP f a3 (λb z h=>K _ _ (hJ.wx b z h)) d8 d7 (K _ _ f4) (K _ _ hJ.Gz) d6;clear d6 d4 d2 d1 c7 Q a6 d7 I b4 b1 a9 D a7 f d8 d3 a3 a1;intro j1 v8 F8 w x8 Z f d9 g4 g5 b5 g6 b6;rw[eU];refine aa.ah f λw f=> ?_;refine aa.aC f λw f=> ?_;have h8:x7 ⟨Z,[]⟩ (.tmp 8)= K4 (S ⟨J,0,none⟩):=(b6.ev b5.s8).at g6;have e0:(#[J3 8]:Array B4).map (x7 ⟨Z,[]⟩)= #[K4 (S ⟨J,0,none⟩)]:=by simp only[D9,G4,H7];rw[h8]
 refine jK (E:=E1 V T J) trivial rfl rfl rfl e0 λg' w9 k9 j2 b7=> ?_;replace f:=f.rely k9;have g7: ∀b,T b\/b=J->b<w9.heap.size:=λb P=>(f.fg.out b (.inl P)).1;obtain ⟨zz,e1,g8⟩:=(b6.ev b5.fR).iO;obtain ⟨e2,e3⟩:=g5.IP;obtain ⟨g9,e6⟩:=f.row g8 e3 e2;have a4: ∀x,F0.rd x->w9.heap[x]? =w0.heap[x]? :=λx hx=>by have h1:=P.fg.dZ x hx;obtain ⟨ob,e7⟩: ∃ob,w0.heap[x]? =S ob:=⟨_,Array.getElem?_eq_getElem h1⟩;rw[e7];exact (f.held x ob ((f2 x hx).trans e7)).2.2
 have e8:=At.restore (S':=T.add J) P f g4 d9 (λb x h=>a4 x (P.fp.num b x h)) (λb x h1 h2=>a4 x (P.fp.dc b x h1 h2)) (λb hs=>⟨g7 b hs,λhr=>hs.elim (λh=>(P.fg.out b (.inl h)).2.1 hr) λh=>YS⟩) rfl f.fg.live.2;obtain ⟨h0,ve,be,h3,M,h5,h6,_,_,b8⟩:=e8.take g9 f1 λh=>⟨f.fg.dZ _ (e6 h).1,(e6 h).2⟩;refine Way.solo (aq.dG _) M.fg.ok ?_;refine b7 _ _ _ _ _ _ _ _ _ _ _ YR M.fg.live λj3 h7=> ?_;replace f:=M.rely h7;have e9:Z.size=54:=by rw[<-b6.1];exact b5.sz
 have f0:x7 ⟨Z.setIfInBounds 52 (.tuple #[]),[]⟩ (.tmp 15)= K3 (S ⟨zz,0,none⟩) m m:=by rw[<-e1];show (Z.setIfInBounds 52 _).getD 15 U=Z.getD 15 U;simp[Array.getD_eq_getD_getElem?]
 change aa _ _ _ _ _ _ _ _ _ _ _ (G (ak 16 (Z.setIfInBounds 52 (.tuple #[])) _) _) _;have N:(Z.setIfInBounds 52 (.tuple #[])).size=54:=by simpa using e9
 generalize Z.setIfInBounds 52 (.tuple #[])=y9 at f0 N ⊢;refine aa.aH f λw f=> ?_;refine aa.ah f λw f=> ?_;refine aa.aC f λw f=> ?_;refine aa.go f YR (λ_=>kH (d:=53) rfl rfl rfl (.inl rfl)) λw f=> ?_;refine aa.go f YR (λ_=>kH (d:=4) rfl rfl rfl (.inr rfl)) λw f=> ?_;refine aa.go f YR (λ_=>kH (d:=5) rfl rfl rfl (.inr rfl)) λw f=> ?_;refine aa.aH f λw f=> ?_;refine aa.pP f λw f=> ?_;refine aa.go f YR (λ_=>mZ Try.func16 rfl) λw f=> ?_;have h4: ∀ (yy:Array Value)(a8 b d:Value),yy.size=54->((((yy.setIfInBounds 53 a8).setIfInBounds 4 b).setIfInBounds 5 d).getD 4 U=b/\(((yy.setIfInBounds 53 a8).setIfInBounds 4 b).setIfInBounds 5 d).getD 5 U=d):=λyy a8 b d h=>by
  constructor
  ·rw[Array.getD_eq_getD_getElem?,ab (aE (n:=54) YS YQ) YQ];rfl
  ·rw[Array.getD_eq_getD_getElem?,aE (n:=54) (by simpa using h) YQ];rfl
 obtain ⟨e4,e5⟩:=h4 y9 (x7 ⟨y9,[]⟩ (.tmp 15)) (x7 ⟨y9.setIfInBounds 53 (x7 ⟨y9,[]⟩ (.tmp 15)),[]⟩ (.tmp 53)) (J9 K1 0) N;have h9:x7 ⟨y9.setIfInBounds 53 (x7 ⟨y9,[]⟩ (.tmp 15)),[]⟩ (.tmp 53)= K3 (S ⟨zz,0,none⟩) m m:=by rw[f0];exact ay (aE N YQ)
 have:=hK h0 ve _ w be (K3 (S ⟨zz,0,none⟩) m m) h3 f h5 b8 (.slice m m ⟨h6,rfl,rfl⟩);have i0: ∀p q:Value,p= K3 (S ⟨zz,0,none⟩) m m->q= J9 K1 0->cO a (T.add J) (.all w9.heap.size (T.add J)) (G (c.finish (.tuple #[p,q])) l) w:=λp q h1 h2=>by rw[h1,h2];exact this
 exact i0 _ _ (e4.trans h9) e5
end
end
section
open Go.Conc.Lib
open Go.ConcR (KK WgAt stA smA)
open Classical
noncomputable def Nc:G0:=match Try.f16.body with | some c=>c | _=> .skip
theorem Ty.Ps (d:aU)(X W:Nat->Prop)(v:World):Ty (dL d X W v) v:=λb c e f a=>by
 unfold dL at a;rw[dQ]at a;cases g:v.heap[b]? with
 | none=>grind
 | some o=>
  rw[g]at a;cases o with
  | cells c0 h i=>
   simp only[B6,lD]at a;split at a
   ·cases a;exact ⟨_,_,R⟩
   grind
  | _=>cases a
theorem yS{X:Nat->Prop}(h:(dL c X W v).cell? Q=some u):v.cell? Q=some u:=by
 cases a:v.heap[Q.block]? with
 | none=>unfold w7 dL at h;rw[dQ,a]at h;cases h
 | some o=>
  cases o with
  | cells c0 e f=>
   by_cases b: ∃x,c[Q.block]? =some (x,.cells)/\W x
   ·unfold w7 dL at h;rw[pY a b]at h;unfold w7;grind
   ·by_cases d: ∀x,c[Q.block]? =some (x,.cells)-> ¬X x
    ·unfold w7 dL at h;rw[kB a b d]at h;unfold w7;grind
    ·unfold w7 dL at h;rw[gE a b d]at h;simp at h
  | _=>unfold w7 dL at h;rw[dQ,a]at h;exact absurd h (by simp[lD])
theorem Mq(b:dA c v w)(a:c[n]? =S (m,.cells))(d:W m)(h:(dL c W (λ_=>False) v).cell? Q=S u):Q.block≠n:=λe=>by subst e;obtain ⟨i,e,f,j,l,g,_⟩:=b.cells _ _ a;unfold w7 at h;unfold dL at h;rw[gE g (λ⟨_,_,h⟩=>h) (λk=>k m a d)]at h;simp at h
theorem Af{b:Nat}(d:dA c v w)(e:c[b]? =S (A,.cells))(f:v.cell? ⟨b,n,none⟩=S (K4 (S ⟨m,0,none⟩)))(g:v.cell? ⟨m,J,none⟩=S u): ∃i,c[m]? =S (i,.cells):=by
 obtain ⟨y,_,j⟩:=d.cell (a:=⟨b,n,none⟩) (b:=⟨A,n,none⟩) ⟨e,R,R⟩ f;cases j with
 | ptr h=>exact ⟨_,h.1⟩
 | num h _ _=>obtain ⟨a,k,l,o,_⟩:=d.num _ _ h;unfold w7 at g;grind
theorem ix{b:Nat}(e:dA c v w)(f:c[b]? =S (J,.cells))(g:v.cell? ⟨b,m,none⟩=S (K3 (S ⟨A,0,none⟩) n L)): ∃d,c[A]? =S (d,.cells):=by obtain ⟨y,_,i⟩:=e.cell (a:=⟨b,m,none⟩) (b:=⟨J,m,none⟩) ⟨f,R,R⟩ g;obtain ⟨d,_,h⟩:=i.iO;grind
theorem Wb.there{b k:Nat}(h:v.there b 0 k)(g:0<k):Wb v b:=by
 obtain ⟨a,i⟩:=h 0 g;unfold w7 at a;unfold A6 at i;cases d:v.heap[b]? with
 | none=>grind
 | some o=>
  cases o with
  | cells c e f=>
   refine ⟨c,e,f,d,0,?_,?_⟩
   ·simp[d]at a;exact a
   grind
  | _=>simp[d]at a
theorem Po (a b:x9):(#[a,b] ++ z7 52 U:Array x9)= #[a,b,U,U,U,U,U,U,U,U,U,U,U,U,U,U,U,U,U,U,U,U,U,U,U,U,U,U,U,U,U,U,U,U,U,U,U,U,U,U,U,U,U,U,U,U,U,U,U,U,U,U,U,U]:=by simp
section
variable {F:aq}{w:World}{n:Nat}{ns:Nat->Nat}{L:Nat->Nat}
def MJ (a:Nat->Nat)(n x:Nat):Prop:= ∃i,i<n/\x=a i
noncomputable def Kn (F:aq)(a:Nat->Nat)(n:Nat)(w:World)(b:Nat):Option Obj:=if F.rd b/\ ¬MJ a n b then w.heap[b]? else none
theorem At.zy {N:Nat}(d:At (E0 T) c v F bO w)(hA:c[A]? =some (m,.cells))(hN:N<=A)(a6:A<v.heap.size)
  (s: ∀i,i<n->v.cell? ⟨A,i,none⟩=some (K4 (some ⟨B i,0,none⟩)))(p: ∀i,i<n->aF v (B i) (L i) (ns i) (X i) (g i) aI)(a5: ∀i,i<n->A<B i/\A<L i)(D: ∀i j,i<n->j<n->i≠j->L i≠L j)(z: ∀i j,i<n->j<n->L i≠B j):
  ∃ (o:Nat->Nat)(E:World)(F0:aq)(M:World),At (E0 T) c E F0 bO w/\(∀b,F0.rd b->Kn F o n w b=w.heap[b]?)/\(∀a u,a.block<N->v.cell? a=some u->E.cell? a=some u)/\v.heap.size<=E.heap.size/\PS E M.heap.size n A ns B L/\(∀i,i<n->N<=L i)/\M.heap.size=v.heap.size + 1/\
   (∀b P,Kn F o n w b=some P-> ∀i,i<n->b≠o i)/\FK ⟨F.rd,kT ns o n 0,λ_ _=>False⟩ ns o n 0/\
   gy (E1 V T w.heap.size) c E n A ns X g B L o v.heap.size 0 (c.push (w.heap.size,.cells)) M/\
   At (E1 V T w.heap.size) (c.push (w.heap.size,.cells)) M ⟨F.rd,kT ns o n 0,λ_ _=>False⟩ ⟨λ_ _=>none,Kn F o n w,λ_=>none⟩ (w.alloc (.cells #[.int .u64 0,.int .u32 0] 101))/\
   (⟨F.rd,kT ns o n 0,λ_ _=>False⟩:aq).sub (F.add w.heap.size (w.heap.size + 1)):=by
 have Q: ∀i,∃x,i<n->c[L i]? =some (x,.cells):=λi=>by
  by_cases l:i<n
  ·obtain ⟨a7,g',W,y,_⟩:=p i l;have Y:=y 0 _ R;have Z:=y 1 _ R;obtain ⟨x1,a0⟩:=Af d.bQ hA (s i l) Y;obtain ⟨x2,a1⟩:=ix d.bQ a0 Z;exact ⟨x2,λ_=>a1⟩
  grind
 obtain ⟨o,t⟩:=Classical.skolem.1 Q;have G: ∀x,kT ns o n 0 x->F.wr x:=λx ⟨i,_,l,hn,e⟩=>by obtain ⟨a7,g',W,_,_,h3,_⟩:=p i l;rw[e];exact d.fp.wb _ _ (t i l) (Wb.there h3.1 YP)
 have a8: ∀x,kT ns o n 0 x->MJ o n x:=λx ⟨i,_,l,_,e⟩=>⟨i,l,e⟩;have a2: ∀b x,c[b]? =some (x,.cells)->(∀i,i<n->b≠L i)-> ¬MJ o n x:=λb x q a3 ⟨i,l,e⟩=>a3 i l (by rw[e]at q;exact d.bQ.inj _ _ _ _ _ q (t i l) YQ YQ);obtain ⟨H,I⟩:=d.group (V:=V) (KW:=kT ns o n 0) (bk:=Kn F o n w) G λb P q=>by unfold Kn at q;grind
 have r:ar v {v with heap:=v.heap.push (.cells #[] 101)}:=ar.push R;have a4:=d.bQ.size;have J: ∀i,i<n->(c.push (w.heap.size,BK.cells))[L i]? =some (o i,.cells):=YS;refine ⟨o,dL c (MJ o n) (λ_=>False) v,⟨λb=>F.rd b/\ ¬MJ o n b,λ_=>False,λ_ _=>False⟩,_,?_,?_,?_,?_,?_,?_,?_,?_,?_,?_,H,I⟩
 ·refine d.ex (λx y h2=>⟨y,h2⟩) (λx h=>h.elim) (λb x q=>⟨d.fp.num b x q,λ⟨i,l,e⟩=> ?_⟩) ⟨⟨λ_ h=>h.elim,λ_ _ h=>h.elim⟩,λ_ _ h=>h.elim,λb h=>d.fg.dZ b h.1,λb q=>⟨(d.fg.out b q).1,λh=>(d.fg.out b q).2.1 h.1,λ_ h=>h⟩,d.fg.live,λ_ _=>⟨λh=>h,λ_ h=>h⟩⟩ (λ_ _ h=>h.elim) (pQ _ _);have e2:=t i l;rw[e]at q;have:=d.bQ.inj _ _ _ _ _ q e2 YQ YQ;grind
 ·intro b q;unfold Kn;grind
 ·intro a u ha hu;exact bz hu λx O=>a2 _ _ O λi l e=>YS
 ·rw[bq];omega
 ·have K:(dL (c.push (w.heap.size,.cells)) (λ_=>False) (kT ns o n 0) {v with heap:=v.heap.push (.cells #[] 101)}).heap.size=v.heap.size + 1:=by rw[bq];show (v.heap.push _).size=_;simp
  rw[K];exact ⟨by rw[bq];omega,λa u hu i l _=>Mq d.bQ (t i l) ⟨i,l,R⟩ hu,λi l=>by obtain ⟨y,h2,_⟩:=(p i l).lt;omega,YP,λi l=>YS,λi k l hk e=>z i k l hk e.symm,D⟩
 ·grind
 ·rw[bq];simp
 ·intro b P q i l e;unfold Kn at q;split at q
  ·rename_i h;exact h.2 ⟨i,l,e⟩
  ·cases q
 ·exact ⟨λ_ _ h=>h,λx O=>⟨O,d.fg.ok.wr x (G x O)⟩⟩
 ·have C: ∀a u,v.cell? a=some u->(dL (c.push (w.heap.size,.cells)) (λ_=>False) (kT ns o n 0) {v with heap:=v.heap.push (.cells #[] 101)}).cell? a=some u:=λa u h=>bz (r.cell h) λ_ _ h=>h;refine ⟨ja _ _,((Ty.Ps _ _ _ _).trans (Ty.low r)).trans (Ty.ex _ _ _ _),⟨by rw[bq,bq];simp,λa u h=>C a u (yS h)⟩,by rw[a4];simp;rfl,λi l=>C _ _ (s i l),λi _ l=> ?_,J⟩;refine (p i l).mv (λj u h=>C _ _ h) (λhn=> ?_) (by rw[bq];simp);obtain ⟨a9,e,f,c',f',y,_⟩:=d.bQ.cells _ _ (t i l);rw[y];exact jS ((r.2 _ (aG y)).trans y) (J i l) ⟨i,Nat.zero_le _,l,hn,R⟩
end
end
