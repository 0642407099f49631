/- WholeBanks: part 0. -/
import Derived.Test.YtheopdnafbkhpaaQa
import Derived.Conc.Events
import Derived.Calls
import Derived.Laws.Sem
import GoSem.Dispatch
import GoSem.Machine.Exec
import Derived.Conc.Own
import Derived.Conc.CrowdSpec
import Derived.Conc.CrowdComm
import Derived.Conc.Beside
import Derived.Conc.WgGenW
import Derived.Conc.WgArith
import Derived.Conc.WgGenAddNeg
import Derived.WalkKit
import Derived.WalkSpells
import Derived.WalkLawsBesides
import Derived.Laws.BitsAll
import Derived.Conc.WgGenWait
set_option maxRecDepth 100000
set_option maxHeartbeats 8000000
set_option linter.unusedVariables false
set_option linter.unusedSimpArgs false
open Array renaming all_eq_true->x8,getD_eq_getD_getElem?->u4,getElem?_eq_none_iff->x1,getElem?_eq_some_iff->m5,getElem?_map->x0,getElem?_push->B5,mapM_eq_mapM_toList->n9,mem_push->A9,replicate->G5,size_mapIdx->E2,size_modify->D4
open Bind renaming bind->L8
open Bool renaming and_eq_false_iff->A5,and_eq_true->m1,false_eq_true->h6,or_eq_true->G3
open Classical renaming choose_spec->q9,choose->m2
open Except renaming bind->K4
open False renaming elim->I2
open Go renaming Addr->n5,BinOp->p7,Event->x3,FloatKind->m6,FuncId->m9,Goroutine->h8,IntKind->x2,Item->K2,Operand->u0,Program->j6,Question->k9,Sem->u1,TypeId->j4,Value->h7,askRoom->D8,behindNumber->D5,binOp->w8,bits->G7,callFunc->K9,choose->q7,doReturn->L1,execOp->u3,getObj->E7,load->B4,mayWake->G8,movedNumber->x6,newObj->E5,program->r6,results->o7,runN->s7,seen->G4,shape->w7,stepG->j1,step_lone_ended->o8,step->J4,storeVar->K8,store->x4,typeInfo->y3,undef->U,underlying->j9,unwind->I1,yielded->l7,zeroValue->J5
open Go.Act renaming eval->B2
open Go.Addr renaming add->M0
open Go.Builtin renaming append_->u2,complex_->y5,firstCells->C8,holdsCells->w9,imag_->C6,lenOf->J2,len_->z9,max2->A0,max_->A2,mayShare->E8,min2->A1,min_->A3,real_->C5,unsafeAdd_->p5,zeroCells->D9
open Go.Conc renaming listed->L5,recvd->I4,seen_none->J7,semEvents->J6,served->l4,stepG_add_atomic->F2,stepG_block->B1,stepG_cond->j0,stepG_entry_pure->F3,stepG_inBlock->J3,stepG_load_atomic->y0,stepG_mark0->y1,stepG_markAt->w5,stepG_region_end->h5,stepG_ret'->k8,stepG_seq->h9,stepG_skip->l6,stepG_unwind_entry->C9
open Go.Conc.QuitsD renaming value->h4
open Go.ConcN renaming st_flag->K3,st_waiters->D1
open Go.ConcR renaming mk->l8,rd->p9,wr->B0
open Go.ConcR.Gen renaming x_addU64_b->y8,x_addU64_f->z2,x_addU64_n->y7,x_addU64_x->y9,x_casU64_b->z4,x_casU64_f->z6,x_casU64_n->z3,x_casU64_x->z5,x_loadU64_b->o4,x_loadU64_f->o6,x_loadU64_n->o0,x_loadU64_x->o5,x_semacquire_b->u6,x_semacquire_f->u9,x_semacquire_n->u5,x_semacquire_x->u7,x_semrelease_b->H0,x_semrelease_f->H3,x_semrelease_n->G9,x_semrelease_x->H2,x_storeU64_b->I6,x_storeU64_f->I8,x_storeU64_n->I5,x_storeU64_x->I7
open Go.Conv renaming floatToFloat->x7,floatToInt->G1
open Go.Deferred renaming ofValue->F0
open Go.Extern renaming findNext->G2,find->A8
open Go.Extern.MathFloatBits renaming float64bits->m4,float64frombits->l5
open Go.Extern.Race renaming none_->E3
open Go.Frame renaming eval->L4,finish_at->G6
open Go.GStep renaming after->m8
open Go.Instr renaming alloc->F7,box->L6,buildSlice->y4,build->F8,extract->C1,fieldAt->C3,fill->o9,indexAt->C4,loadAt->J8,makeSlice->A4,sliceBounds->x9,sliceBound->n8,storeAt->J0,sureAddr->H4
open Go.IntKind renaming wrap_i32->F4,wrap_u64->y6
open Go.MemAct renaming ofEvent->I3
open Go.Mode renaming plain->L2
open Go.Op renaming addrMod->H6,complexOp->n7,eqGuardIn->K1,equal->D7,floatArith->I9,floatCmp->K6,intArith->K5,intBits->L3,stringOp->K7,twoPlaces->D6,unary->I0
open Go.Op.Complex renaming add->H9,arith->E6,cmp->L9,corrected->A6,mul->H8,product->C7,quotient->B6,sub->H7
open Go.Region renaming wanted->j5
open Go.Result.halt renaming injEq->m3
open Go.Result.ok renaming injEq->j8
open Go.Sem renaming bind->H5,runT_bind'->w6,runT_eq->p6,runT->j2
open Go.Stepped.next renaming injEq->m7
open Go.Value renaming float->F6,pointer->J1,slice->A7
open Go.World renaming cell?->F5,farLoad->B8,farStore->q2,noCell->z7,setCell->C0,shape?->J9,viewStore->F9
open Go.stepG renaming exec->s5
open Int renaming toNat_natCast->E4
open List renaming foldlM_cons->E9,foldlM_nil->G0,getElem?_cons_zero->p8,getElem?_toArray->q8,length_eq_one_iff->z8
open Nat renaming add_zero->D2,le_refl->n3,le_trans->n6,lt_of_lt_of_le->j7
open Option renaming getD_some->s6,some->S
open Option.some renaming injEq->x5
open Prod.mk renaming injEq->j3
open Pure renaming pure->l9
namespace Go.Proofs.Ytheopdnafbkhpaa
open Go.Conc Go.ConcN Go.RowKit
variable {A:Oper}{B:FuncId}{C w:World}{H:TypeId}{I:Array Event}{J:Operand->Value}{L:Go.Conc.Lib.WgLink}{M n:Addr}{N:Operand}{O e:Frame}{P:Program}{Q:Array Value->World->Prop}{T s:List Frame}{V y:Array Value}{W:Array (Nat×Value)}{X x z:Value}{Z j:Goroutine}{d q:Nat}{h:Nat->Bool}{i:Array Oper}{k:List Item}{l:List Nat}{m:Bool}{o:Type}{t:Act}{v:Array TypeId}
theorem YW{p:Prop}(h:p:=by go_simp;try (first | omega | (w_num;omega) | w_num | decide)):p:=h
theorem YX{p:Prop}(h:p:=by simp[go_sem, *]):p:=h
theorem YY{p:Prop}(h:p:=by k_ne):p:=h
theorem YZ{p:Prop}(h:p:=by first | rfl | (simp[Act.eval];omega)):p:=h
theorem Za{p:Prop}(h:p:=by simp[Go.ConcR.mk]):p:=h
inductive BK where
 | cells | num | chan | gone
 deriving DecidableEq
abbrev aU:=Array (Nat×BK)
def RA (r:aU)(a b:n5):Prop:=r[a.block]? =S (b.block,.cells)/\a.off=b.off/\a.spot=b.spot
def EC (f:m9):Bool:= [71,25,41,50].contains f
def SA:h7->Prop
 | .agg _=>False
 | .tuple _=>False
 | .nilIface=>False
 | .int _ _=>False
 | .float _ _=>False
 | .complex _ _ _=>False
 | .string _=>False
 | .bool _=>False
 | _=>True
inductive VR (r:aU):h7->h7->Prop
 | bool (b:Bool):VR r (.bool b) (.bool b)
 | int (k:x2) (n:Int):VR r (.int k n) (.int k n)
 | float (k:m6) (b:Nat):VR r (.float k b) (.float k b)
 | complex (k:m6) (a b:Nat):VR r (.complex k a b) (.complex k a b)
 | string (s:ByteArray):VR r (.string s) (.string s)
 | vV:VR r (.pointer none) (.pointer none)
 | ptr {a b:n5}:RA r a b->VR r (.pointer (S a)) (.pointer (S b))
 | num {a b:n5}:r[a.block]? =S (b.block,.num)->a.off=b.off->a.spot=b.spot->VR r (.pointer (S a)) (.pointer (S b))
 | eQ (n c:Nat):VR r (.slice none n c) (.slice none n c)
 | slice {a b:n5} (n c:Nat):RA r a b->VR r (.slice (S a) n c) (.slice (S b) n c)
 | chan {a b:Nat}:r[a]? =S (b,.chan)->VR r (.chan (S a)) (.chan (S b))
 | mG:VR r (.chan none) (.chan none)
 | func (fn:m9) {f f' c c':Array h7}:EC fn=true->f.size=f'.size->(∀ (i:Nat) x y,f[i]? =S x->f'[i]? =S y->VR r x y)->
   c.size=c'.size->(∀ (i:Nat) x y,c[i]? =S x->c'[i]? =S y->VR r x y)->VR r (.func (.func fn) f c) (.func (.func fn) f' c')
 | nilFunc:VR r .nilFunc .nilFunc
 | qH (y:h7):SA y->VR r .nilFunc y
 | nilIface:VR r .nilIface .nilIface
 | agg {c c':Array h7}:c.size=c'.size->(∀ (i:Nat) x y,c[i]? =S x->c'[i]? =S y->VR r x y)->VR r (.agg c) (.agg c')
 | tuple {c c':Array h7}:c.size=c'.size->(∀ (i:Nat) x y,c[i]? =S x->c'[i]? =S y->VR r x y)->VR r (.tuple c) (.tuple c')
def aB (r:aU)(c a:Array h7):Prop:=c.size=a.size/\ ∀ (i:Nat) x y,c[i]? =S x->a[i]? =S y->VR r x y
def Wx (r s:aU):Prop:= ∀ (b:Nat) x,r[b]? =S x->s[b]? =S x
variable {r:aU}
theorem RA.iW {s:aU}(h:RA r n M)(k:Wx r s):RA s n M:=⟨k _ _ h.1,h.2⟩
theorem VR.iW {r s:aU}(k:Wx r s){x y:h7}(h:VR r x y):VR s x y:=by
 induction h with
 | bool b=>exact .bool b
 | int k n=>exact .int k n
 | float k b=>exact .float k b
 | complex k a b=>exact .complex k a b
 | string t=>exact .string t
 | vV=>exact .vV
 | ptr h=>exact .ptr (h.iW k)
 | num h d e=>exact .num (k _ _ h) d e
 | eQ n c=>exact .eQ n c
 | slice n c h=>exact .slice n c (h.iW k)
 | chan h=>exact .chan (k _ _ h)
 | mG=>exact .mG
 | func f g d _ e _ j l=>exact .func f g d j e l
 | nilFunc=>exact .nilFunc
 | qH y h=>exact .qH y h
 | nilIface=>exact .nilIface
 | agg h _ i=>exact .agg h i
 | tuple h _ i=>exact .tuple h i
theorem aB.iW {r s:aU}(k:Wx r s){c d:Array h7}(h:aB r c d):aB s c d:=⟨h.1,λi x y a b=>(h.2 i x y a b).iW k⟩
structure Ext (r s:aU):Prop where
 w:Wx r s
 nc: ∀ (b x:Nat),s[b]? =S (x,.chan)->r[b]? =S (x,.chan)
instance {r s:aU}:CoeFun (Ext r s) (λ_=> ∀ (b:Nat) x,r[b]? =S x->s[b]? =S x):=⟨Ext.w⟩
theorem Ext.refl (r:aU):Ext r r:=⟨λ_ _ h=>h,λ_ _ h=>h⟩
theorem Ext.trans {s t:aU}(h:Ext r s)(k:Ext s t):Ext r t:=⟨λb x e=>k.w b x (h.w b x e),λb x e=>h.nc b x (k.nc b x e)⟩
theorem RA.mono {s:aU}{a b:n5}(h:RA r a b)(k:Ext r s):RA s a b:=h.iW k.w
theorem VR.mono {s:aU}(k:Ext r s)(h:VR r x z):VR s x z:=h.iW k.w
theorem aB.mono {s:aU}(k:Ext r s){c d:Array h7}(h:aB r c d):aB s c d:=h.iW k.w
def Plain (x:h7):Prop:=VR #[] x x
theorem ext_nil (r:aU):Wx #[] r:=λb x h=>by simp at h
theorem Plain.vr(h:Plain x)(r:aU):VR r x x:=h.iW (ext_nil r)
def Dc (v:World)(b:Nat):Prop:= ∃c e f,v.heap[b]? =S (.cells c e f)/\0<c.size
def Wb (v:World)(b:Nat):Prop:= ∃c e f,v.heap[b]? =S (.cells c e f)/\ ∃k,k<c.size/\ ¬ (f.1<=k/\k<f.2)
structure dA (r:aU)(v w:World):Prop where
 size:v.heap.size=r.size
 inj: ∀ (i j x:Nat) k l,r[i]? =S (x,k)->r[j]? =S (x,l)->k≠ .gone->l≠ .gone->i=j
 low: ∀ (i x:Nat) k,r[i]? =S (x,k)->k≠ .gone->x<w.heap.size
 et: ∀ (i x:Nat) k,r[i]? =S (x,k)->k≠ .gone->0<i/\0<x
 pos:0<r.size/\0<w.heap.size
 cells: ∀ (b x:Nat),r[b]? =S (x,.cells)-> ∃c e f c' f',v.heap[b]? =S (.cells c e f)/\w.heap[x]? =S (.cells c' e f')/\(c= #[]\/aB r c c')/\(∀k,k<c.size->f'.1<=k->k<f'.2->f.1<=k/\k<f.2)
 num: ∀ (b x:Nat),r[b]? =S (x,.num)-> ∃a a' l,v.heap[b]? =S (.number a l)/\w.heap[x]? =S (.number a' l)/\RA r a a'
structure jf (r s:aU)(v w v' w':World):Prop where
 ext:Ext r s
 fresh: ∀ (b x:Nat) k,s[b]? =S (x,k)->r[b]? =S (x,k)\/w.heap.size<=x
 size:w.heap.size<=w'.heap.size
 same: ∀x:Nat,x<w.heap.size->(∀b:Nat,r[b]? =S (x,.cells)-> ¬Wb v b)->w'.heap[x]? =w.heap[x]?
 os:w'.os=w.os
 output:w'.output=w.output
 tape:w'.tape=w.tape
 As:v'.tape=v.tape
 nW:v.drawn<=v'.drawn
 drew:v'.drawn + w.drawn=w'.drawn + v.drawn
 wJ:v.heap.size<=v'.heap.size
 dc: ∀b,b<v.heap.size->(Dc v' b↔Dc v b)
 wb: ∀b,b<v.heap.size->(Wb v' b↔Wb v b)
 Aw: ∀ (x:Nat) c e f,w.heap[x]? =S (.cells c e f)-> ∃c' f',w'.heap[x]? =S (.cells c' e f')
theorem jf.refl (r:aU)(v w:World):jf r r v w v w:=
 ⟨.refl r,λ_ _ _ h=> .inl h,n3 _,λ_ _ _=>rfl,R,R,R,R,n3 _,Nat.add_comm _ _,n3 _,λ_ _=>Iff.rfl,λ_ _=>Iff.rfl,λ_ c _ f h=>⟨c,f,h⟩⟩
theorem dP{x:Nat×BK}(h:r[d]? =S x):d<r.size:=by grind
theorem jf.trans {r s t:aU}{v w g i j m:World}(u:v.heap.size=r.size)(h:jf r s v w g i)(k:jf s t g i j m):jf r t v w j m where
 ext:=h.ext.trans k.ext;fresh b x l e:=by
  rcases k.fresh b x l e with d | d
  ·exact h.fresh b x l d
  ·exact .inr (n6 h.size d)
 size:=n6 h.size k.size
 same x hx hn:=by
  rw[k.same x (j7 hx h.size) ?_,h.same x hx hn];intro b a n;rcases h.fresh b x _ a with e | e
  ·have:=dP e;exact hn b e ((h.wb b YP).1 n)
  ·omega
 os:=k.os.trans h.os
 output:=k.output.trans h.output
 tape:=k.tape.trans h.tape
 As:=k.As.trans h.As
 nW:=n6 h.nW k.nW
 drew:=by have:=h.drew;have:=k.drew;omega
 wJ:=n6 h.wJ k.wJ
 dc b a:=(k.dc b (j7 a h.wJ)).trans (h.dc b a)
 wb b a:=(k.wb b (j7 a h.wJ)).trans (h.wb b a)
 Aw x c e f hx:=by obtain ⟨o,p,q⟩:=h.Aw x c e f hx;exact k.Aw x o e p q
inductive jd (r:aU)(v:World):x3->Prop
 | extern (f:m9):jd r v ⟨.mark (.extern f),false,true⟩
 | room:jd r v ⟨.mark .noRoom,false,true⟩
 | obj {b x:Nat}:r[b]? =S (x,.num)->jd r v ⟨.obj x,false,false⟩
 | read {a:n5} {b:Nat}:r[b]? =S (a.block,.cells)->Dc v b->jd r v ⟨.cell a,false,false⟩
 | write {a:n5} {b:Nat}:r[b]? =S (a.block,.cells)->Wb v b->jd r v ⟨.cell a,true,false⟩
theorem jd.mono {s:aU}{v c:World}(d:v.heap.size=r.size)(k:jf r s v w C c){e:x3}(h:jd r v e):jd s C e:=by
 cases h with
 | extern f=>exact .extern f
 | room=>exact .room
 | obj h=>exact .obj (k.ext _ _ h)
 | read a b=>exact .read (k.ext _ _ a) ((k.dc _ YS).2 b)
 | write a b=>exact .write (k.ext _ _ a) ((k.wb _ YS).2 b)
def iJ:Halt->Prop
 | .panic _ | .stuck _=>True
 | .unsupported (.initOrder _)=>False
 | .unsupported _=>True
 | _=>False
def Ag (n:Nat)(v w:World):Prop:= ∀j q,j<n->v.tape (v.drawn + j) q=w.tape (w.drawn + j) q
theorem Ag.tT{s:aU}{a b:World}(h:Ag d C w)(k:jf r s C w a b):Ag (d - (a.drawn - C.drawn)) a b:=by intro j q c;have e:=k.nW;have f:=k.drew;rw[k.As,k.tape];have:=h (a.drawn - C.drawn + j) q YP;grind
theorem AK(w:World)(a:Ask o):w.drawn<=(w.ask a).2.drawn:=by
 induction a generalizing w with
 | done a=>exact n3 _
 | ask q n k b=>unfold World.ask;grind
theorem Cj (w:World)(c:Sys):w.drawn<=(w.sys c).2.drawn:=by have:=AK w (Kernel.perform c w.os);unfold World.sys;grind
theorem oE{l:List n5}(h:w.viewStore P n H M x m= .ok (C,l)):C.drawn=w.drawn:=by
 unfold F9 at h;simp only[bind,K4]at h;repeat' split at h
 all_goals first | (cases h;done) | (cases h;rfl)
theorem pG{l:List n5}(h:w.farStore P n x m= .ok (C,l)):C.drawn=w.drawn:=by
 unfold q2 at h;split at h
 ·split at h
  ·rename_i a;cases h;exact oE a
  ·cases h
 ·cases h
def Result.world {a:Type}:Result a->World
 | .ok _ w=>w
 | .halt _ w=>w
theorem qn(P:j6)(s:u1 o)(w:World)(d:Array x3):w.drawn<=(Result.world (s.runT P w d).1).drawn:=by
 induction s generalizing w d with
 | pure a=>exact Nat.le_refl _
 | load m a k b=>
  simp only[j2];split
  ·grind
  ·split
   ·grind
   ·exact Nat.le_refl _
 | store m a v k b=>
  cases v<;>simp only[j2]<;>first | exact Nat.le_refl _ | skip
  all_goals
   split
   ·split
    ·exact Nat.le_refl _
    ·exact b (w.setCell a _) _
   ·split
    ·rename_i g;rw[<-pG g];exact b _ _
    ·exact Nat.le_refl _
 | new f k b=>exact b _ {w with heap:=w.heap.push f} d
 | shape r k b=>exact b _ w d
 | freeze a n k b=>
  have:=b (w.freeze a n) d;have e:(w.freeze a n).drawn=w.drawn:=by unfold World.freeze;split<;>rfl
  rw[e]at this;exact this
 | frozen a k b=>exact b _ w d
 | getObj r k b=>
  simp only[j2];split
  ·exact Nat.le_refl _
  ·grind
  ·exact Nat.le_refl _
 | setObj r f k b=>
  simp only[j2];split
  ·exact Nat.le_refl _
  ·grind
  ·exact Nat.le_refl _
 | choose q k b=>simp only[j2];grind
 | sys c k b=>exact Nat.le_trans (Cj w c) (b _ _ _)
 | program k b=>exact b _ w d
 | mark m k b=>exact b w _
 | halt h=>exact Nat.le_refl _
def SS (P:j6){i:Type}(r:aU)(R:aU->i->i->Prop)(s t:u1 i):Prop:=
 ∀v w k l n,dA r v w->Ag n v w->(∀a c d,s.runT P v k=(.ok a c,d)->c.drawn<=v.drawn + n->
  ∃g b j f,t.runT P w l=(.ok b j,f)/\dA g c j/\jf r g v w c j/\R g a b/\ ∀e∈f,e∈l\/jd g c e)/\
  ∀h c d,s.runT P v k=(.halt h c,d)->c.drawn<=v.drawn + n->iJ h
section
variable {β:Type}
theorem SS.mono {R Q:aU->o->o->Prop}{s t:u1 o}(h:SS P r R s t)(k: ∀c a b,Ext r c->R c a b->Q c a b):SS P r Q s t:=by intro v w g i n j l;refine ⟨λa p d e q=> ?_,(h v w g i n j l).2⟩;obtain ⟨c,b,u,f,x,y,m,z,A⟩:=(h v w g i n j l).1 a p d e q;exact ⟨c,b,u,f,x,y,m,k _ _ _ m.ext z,A⟩
theorem SS.bind {R:aU->o->o->Prop}{Q:aU->β->β->Prop}{s t:u1 o}{k l:o->u1 β}(h:SS P r R s t)
  (K: ∀D a b,Ext r D->R D a b->SS P D Q (k a) (l b)):SS P r Q (s>>=k) (t>>=l):=by
 intro v w g E n A m;refine ⟨λa B p e L=> ?_,λx B p e L=> ?_⟩;case refine_2=>
  change (s.bind k).runT P v g=_ at e;rw[w6]at e;match hx:s.runT P v g with
  | (.halt y z,u)=>rw[hx]at e;cases e;exact (h v w g E n A m).2 _ _ _ hx L
  | (.ok i d,c)=>rw[hx]at e;dsimp only at e;have q:=qn P (k i) d c;rw[e]at q;have F:d.drawn<=B.drawn:=q;obtain ⟨G,H,w1,j,O,C,f,I,M⟩:=(h v w g E n A m).1 i d c hx YP;have:=f.nW;exact (K G i H f.ext I d w1 c j _ C (m.tT f)).2 _ _ _ e YP
 change (s.bind k).runT P v g=_ at e;rw[w6]at e;match hx:s.runT P v g with
 | (.halt x y,z)=>grind
 | (.ok i d,c)=>
  rw[hx]at e;dsimp only at e;have q:=qn P (k i) d c;rw[e]at q;have F:d.drawn<=B.drawn:=q;obtain ⟨G,H,w1,j,O,C,f,I,M⟩:=(h v w g E n A m).1 i d c hx YP;have:=f.nW;obtain ⟨T,V,W,J,g1,X,N,Y,Z⟩:=(K G i H f.ext I d w1 c j _ C (m.tT f)).1 a B p e YP;refine ⟨T,V,W,J,?_,X,f.trans A.size N,Y,λe he=> ?_⟩
  ·simp_all
  ·rcases Z e he with h | h
   ·rcases M e h with h | h
    ·exact .inl h
    ·exact .inr (h.mono C.size N)
   grind
theorem SS.pure {R:aU->o->o->Prop}{a b:o}(h:R r a b):SS P r R (pure a) (pure b):=by intro v w i d n f j;refine ⟨λk g c e _=> ?_,λx g c e _=>by simp_all⟩;simp only[l9,j2,j3,j8]at e;obtain ⟨⟨rfl,rfl⟩,rfl⟩:=e;exact ⟨r,b,w,d,rfl,f,.refl _ _ _,h,λ_ h=> .inl h⟩
theorem SS.halt {R:aU->o->o->Prop}{h:Halt}{t:u1 o}(a:iJ h:=by trivial):SS P r R (.halt h) t:=by intro v w b c n d e;simp_all
theorem SS.choose (q:k9):SS P r (λ_ a b=>a=b) (q7 q) (q7 q):=by
 intro v w o i n d l;refine ⟨λp m g e s=> ?_,λx m g e _=> ?_⟩;case refine_2=>unfold q7 at e;simp only[j2]at e;grind
 unfold q7 at e ⊢;simp only[j2]at e ⊢;by_cases j:q.forced=true
 ·simp only[j,if_true,j3,j8]at e ⊢;obtain ⟨⟨rfl,rfl⟩,rfl⟩:=e;exact ⟨r,0,w,i,⟨⟨R,R⟩,R⟩,d,.refl _ _ _,R,λ_ h=> .inl h⟩
 ·simp only[j,h6,if_false,j3,j8]at e ⊢;obtain ⟨⟨rfl,rfl⟩,rfl⟩:=e;have k:=l 0 q YS;simp only[D2]at k;refine ⟨r,_,_,i,⟨⟨R,R⟩,R⟩,⟨d.size,d.inj,d.low,d.et,d.pos,d.cells,d.num⟩,
   ⟨.refl r,λ_ _ _ h=> .inl h,n3 _,λ_ _ _=>rfl,R,R,R,R,YR,YT,n3 _,λ_ _=>Iff.rfl,λ_ _=>Iff.rfl,λ_ c _ f h=>⟨c,f,h⟩⟩,by rw[k],λ_ h=> .inl h⟩
theorem SS.program:SS P r (λ_ a b=>a=P/\b=P) program program:=by intro v w i d n f j;refine ⟨λk g c e _=> ?_,λx g c e _=>by simp_all⟩;unfold r6 at e ⊢;simp only[j2,j3,j8]at e ⊢;obtain ⟨⟨rfl,rfl⟩,rfl⟩:=e;exact ⟨r,_,w,d,⟨⟨R,R⟩,R⟩,f,.refl _ _ _,⟨R,R⟩,λ_ h=> .inl h⟩
theorem SS.mark {m:Mark}(b:m= .noRoom\/ ∃f,m= .extern f):SS P r (λ_ _ _=>True) (mark m) (mark m):=by
 intro v w g i n c j;refine ⟨λk d a e _=> ?_,λx d a e _=>by simp_all⟩;unfold Go.mark at e ⊢;simp only[j2,j3,j8]at e ⊢;obtain ⟨⟨-,rfl⟩,rfl⟩:=e;refine ⟨r,(),w,_,⟨⟨trivial,R⟩,R⟩,c,.refl _ _ _,trivial,λe h=> ?_⟩;rcases Array.mem_push.1 h with h | rfl
 ·grind
 ·rcases b with rfl | ⟨f,rfl⟩
  ·exact .inr .room
  ·exact .inr (.extern f)
theorem rN(h:y[d]? =S x):d<y.size:=by grind
theorem nA(h:w.cell? n=S x):n.spot=none/\ ∃c e f,w.heap[n.block]? =S (.cells c e f)/\c[n.off]? =S x:=by
 unfold F5 at h;split at h
 ·simp_all
 ·cases h
theorem zp{f:Nat×Nat}(a:n.spot=none)(b:w.heap[n.block]? =S (.cells y H f))(c:y[n.off]? =S x):w.cell? n=S x:=by unfold F5;grind
theorem aB.get(h:aB r y V)(c:y[d]? =S x): ∃a,V[d]? =S a/\VR r x a:=by
 have e:d<y.size:=by
  rcases Nat.lt_or_ge d y.size with k | k
  ·exact k
  ·grind
 have b:d<V.size:=by have:=h.1;omega
 exact ⟨V[d],by simp[b],h.2 d x _ c (by simp[b])⟩
theorem dA.cell {v:World}(h:dA r v w){a b:n5}(d:RA r a b)(k:v.cell? a=S x): ∃y,w.cell? b=S y/\VR r x y:=by
 obtain ⟨l,c,e,f,m,i⟩:=nA k;obtain ⟨c0,q,s,t,u,j,n,g,_⟩:=h.cells _ _ d.1;rw[m]at j;cases j;rcases g with rfl | g
 ·simp at i
 obtain ⟨y,o,p⟩:=g.get i;exact ⟨y,zp (by rw[<-d.2.2];exact l) n (by rw[<-d.2.1];exact o),p⟩
theorem mM(h:dA r C w)(a:RA r n M)(m:Bool): ∃s,C.farLoad P n m= .error (.stuck s):=by obtain ⟨c,e,f,_,_,b,_⟩:=h.cells _ _ a.1;unfold B8 z7;simp_all
theorem lz(h:dA r C w)(a:RA r n M)(x:h7)(m:Bool): ∃s,C.farStore P n x m= .error (.stuck s):=by obtain ⟨c,e,f,_,_,b,_⟩:=h.cells _ _ a.1;unfold q2 z7;simp_all
theorem SS.load {a b:n5}(g:RA r a b):SS P r VR (B4 a) (B4 b):=by
 intro v w t u n i A;refine ⟨λx m j e _=> ?_,λx m j e _=> ?_⟩;case refine_2=>
  unfold B4 at e;simp only[j2]at e;cases d:v.cell? a with
  | none=>obtain ⟨h,k⟩:=mM (P:=P) i g (L2== .atomic);rw[d,k]at e;simp only[j3,m3]at e;rw[<-e.1.1];trivial
  | some y=>grind
 unfold B4 at e ⊢;simp only[j2]at e ⊢;cases d:v.cell? a with
 | none=>obtain ⟨h,k⟩:=mM (P:=P) i g (L2== .atomic);grind
 | some y=>
  rw[d]at e;simp only[j3,j8]at e;obtain ⟨⟨rfl,rfl⟩,rfl⟩:=e;obtain ⟨z,o,p⟩:=i.cell g d;rw[o];refine ⟨r,z,w,_,R,i,.refl _ _ _,p,λe l=> ?_⟩;rcases Array.mem_push.1 l with l | rfl
  ·grind
  ·obtain ⟨_,c,e,f,q,s⟩:=nA d;exact .inr (.read g.1 ⟨c,e,f,q,Nat.lt_of_le_of_lt (Nat.zero_le _) (rN s)⟩)
theorem iM (a:n5)(x:h7)(w:World)(d:Array x3)(e: ∀c,x≠ .agg c)(f: ∀c,x≠ .tuple c):
  (x4 a x).runT P w d=match w.cell? a with
   | some _=>if w.frozen? a then (.halt (.unsupported (.unsafePointer "a write to bytes that a string shares")) w,d)else (.ok () (w.setCell a x),d.push ⟨.cell a,true,false⟩)
   | none=>match w.farStore P a x false with
    | .ok (w,b)=>(.ok () w,d ++ b.toArray.map (⟨.cell ·,true,false⟩))
    | .error h=>(.halt h w,d):=by
 cases x<;>first | exact absurd rfl (e _) | exact absurd rfl (f _) | rfl
theorem heap_set (w:World)(a:n5)(x:h7)(i:Nat):(w.setCell a x).heap[i]? =if a.block=i then (w.heap[i]?).map (λ| .cells c b frozen=> .cells (if a.spot.isSome then c else c.setIfInBounds a.off x) b frozen | o=>o)else w.heap[i]? :=by unfold C0;grind
theorem VR.zj(h:VR r x z):((∀c,x≠ .agg c)-> ∀c,z≠ .agg c)/\((∀c,x≠ .tuple c)-> ∀c,z≠ .tuple c):=by
 cases h<;>simp
 rename_i h;exact ⟨λc e=>by subst e;exact h,λc e=>by subst e;exact h⟩
theorem aB.set {d:Array Value}(h:aB r y d){i:Nat}(e:VR r x z):aB r (y.setIfInBounds i x) (d.setIfInBounds i z):=by
 refine ⟨by simp[h.1],λj p q a b=> ?_⟩;rw[Array.getElem?_setIfInBounds]at a b;by_cases c:i=j
 ·grind
 ·rw[if_neg c]at a b;exact h.2 j p q a b
theorem lS{a:n5}{f:Nat×Nat}(h:w.heap[a.block]? =S (.cells y H f)):w.frozen? a=true↔f.1<=a.off/\a.off<f.2:=by unfold World.frozen?;grind
theorem dA.set {v w:World}(h:dA r v w){a b:Addr}(j:RA r a b){x y:Value}(s:VR r x y)(t:a.spot=none):dA r (v.setCell a x) (w.setCell b y) where
 size:=by simp[World.setCell,h.size]
 inj:=h.inj
 low i x k e:=by simp only[World.setCell,D4];exact h.low i x k e
 et:=h.et
 pos:=⟨h.pos.1,by simp only[World.setCell,D4];exact h.pos.2⟩
 cells i z hz:=by
  obtain ⟨c,e,f,B,u,m,n,d,A⟩:=h.cells i z hz;rw[heap_set,heap_set];by_cases o:a.block=i
  ·subst o;have g:b.block=z:=by have:=j.1;rw[hz]at this;cases this;rfl
   subst g;rw[if_pos R,if_pos R,m,n];refine ⟨_,e,f,_,u,R,R,?_,λk C=>A k YS⟩;rw[<-j.2.2,t,<-j.2.1];rcases d with rfl | d
   ·simp
   ·exact .inr (by simpa using d.set s)
  ·have g:b.block≠z:=λe=>o (h.inj _ _ _ _ _ j.1 (by rw[e];exact hz) YQ YQ);grind
 num i z hz:=by
  obtain ⟨p,q,l,m,n,d⟩:=h.num i z hz;refine ⟨p,q,l,?_,?_,d⟩
  ·rw[heap_set,m];simp
  ·rw[heap_set,n];simp
theorem yz (v:World)(a:n5)(x:h7)(i:Nat):(Dc (v.setCell a x) i↔Dc v i)/\(Wb (v.setCell a x) i↔Wb v i):=by
 unfold Dc Wb;rw[heap_set];by_cases h:a.block=i
 ·rw[if_pos h];cases d:v.heap[i]? with
  | none=>simp
  | some o=>
   cases o<;>simp
   split
   ·exact ⟨Iff.rfl,Iff.rfl⟩
   ·refine ⟨YR,?_⟩;constructor
    ·rintro ⟨_,_,p,q,⟨rfl,rfl,rfl⟩,k,b,c⟩;exact ⟨_,_,p,q,⟨R,R,R⟩,k,by simpa using b,c⟩
    ·rintro ⟨_,_,p,q,⟨rfl,rfl,rfl⟩,k,b,c⟩;exact ⟨_,_,p,q,⟨R,R,R⟩,k,by simpa using b,c⟩
 simp_all
theorem SS.store {a b:n5}(g:RA r a b){x y:h7}(s:VR r x y):SS P r (λ_ _ _=>True) (x4 a x) (x4 b y):=by
 intro v w E J n l V;refine ⟨λu K A e _=> ?_,λu K A e _=> ?_⟩;case refine_2=>
  by_cases d:(∀c,x≠ .agg c)/\(∀c,x≠ .tuple c)
  ·rw[iM a x v E d.1 d.2]at e;cases j:v.cell? a with
   | none=>obtain ⟨h,F⟩:=lz (P:=P) l g x false;rw[j,F]at e;simp only[j3,m3]at e;rw[<-e.1.1];trivial
   | some p=>
    rw[j]at e;dsimp only at e;split at e
    ·simp only[j3,m3]at e;rw[<-e.1.1];trivial
    grind
  ·unfold x4 at e;cases x<;>first | (simp at d;done) | skip
   all_goals
    simp only[j2,j3,m3]at e;rw[<-e.1.1];trivial
 by_cases d:(∀c,x≠ .agg c)/\(∀c,x≠ .tuple c)
 ·rw[iM a x v E d.1 d.2]at e;rw[iM b y w J (s.zj.1 d.1) (s.zj.2 d.2)];cases j:v.cell? a with
  | none=>obtain ⟨h,F⟩:=lz (P:=P) l g x false;grind
  | some p=>
   rw[j]at e;obtain ⟨q,L,_⟩:=l.cell g j;obtain ⟨B,c,t,f,C,M⟩:=nA j;obtain ⟨_,_,_,W,X,G,N,_,O⟩:=l.cells _ _ g.1;rw[C]at G;cases G;rw[L];by_cases H:v.frozen? a=true
   ·grind
   ·simp only[H,h6,if_false,j3,j8]at e;have m: ¬ (f.1<=a.off/\a.off<f.2):=λk=>H ((lS C).2 k);have D:w.frozen? b=false:=by rw[Bool.eq_false_iff];intro k;have:=(lS N).1 k;rw[<-g.2.1]at this;exact m (O _ (rN M) this.1 this.2)
    simp only[D,h6,if_false];obtain ⟨⟨-,rfl⟩,rfl⟩:=e;have o:Wb v a.block:=by
     refine ⟨c,t,f,C,a.off,?_,m⟩;rcases Nat.lt_or_ge a.off c.size with k | k
     ·exact k
     ·grind
    refine ⟨r,(),_,_,R,l.set g s B,?_,trivial,λe I=> ?_⟩
    ·refine ⟨.refl r,λ_ _ _ h=> .inl h,by simp[C0],λz _ Q=> ?_,R,R,R,R,Nat.le_refl _,Nat.add_comm _ _,by simp[C0],λi _=>(yz v a x i).1,λi _=>(yz v a x i).2,λz c e f T=>by rw[heap_set,T];grind⟩;rw[heap_set,if_neg];intro k;exact Q a.block (by rw[g.1,k]) o
    ·rcases Array.mem_push.1 I with I | rfl
     ·grind
     ·exact .inr (.write g.1 ((yz v a x _).2.2 o))
 ·exfalso;unfold x4 at e;cases x<;>simp[j2, -p6]at d e
theorem dA.push {v w:World}(m:dA r v w){o o':Obj}{k:BK}(M:k≠ .gone/\k≠ .chan)
  (O:k= .cells-> ∃c e f C y,o= .cells c e f/\o'= .cells C e y/\(c= #[]\/aB r c C)/\(∀k,k<c.size->y.1<=k->k<y.2->f.1<=k/\k<f.2))
  (P:k= .num-> ∃a D l,o= .number a l/\o'= .number D l/\RA r a D):
  dA (r.push (w.heap.size,k)) {v with heap:=v.heap.push o} {w with heap:=w.heap.push o'}/\
  jf r (r.push (w.heap.size,k)) v w {v with heap:=v.heap.push o} {w with heap:=w.heap.push o'}/\(r.push (w.heap.size,k))[v.heap.size]? =some (w.heap.size,k):=by
 have F:Ext r (r.push (w.heap.size,k)):=by
  refine ⟨λb x n=> ?_,λb x n=> ?_⟩
  ·grind
  ·grind
 replace M:=M.1;have d: ∀ (b:Nat)(x:Nat×BK),(r.push (w.heap.size,k))[b]? =some x->r[b]? =some x\/(b=r.size/\x=(w.heap.size,k)):=YS;have h: ∀ {b:Nat},b<v.heap.size->(v.heap.push o)[b]? =v.heap[b]? :=YS;have A: ∀ {b:Nat},b<w.heap.size->(w.heap.push o')[b]? =w.heap[b]? :=YS;have t:(v.heap.push o)[r.size]? =some o:=by rw[<-m.size];simp
 have s:(w.heap.push o')[w.heap.size]? =some o':=YR;have I:=m.pos;refine ⟨?_,?_,by rw[m.size,B5,if_pos R]⟩
 ·refine ⟨by simp[m.size],λi j x p q G Q E N=> ?_,λi x p G E=> ?_,λi x p G E=> ?_,⟨YR,YR⟩,λb x n=> ?_,λb x n=> ?_⟩
  ·rcases d i _ G with g | ⟨g,u⟩<;>rcases d j _ Q with J | ⟨J,V⟩
   ·exact m.inj i j x p q g J E N
   ·have:=m.low _ _ _ g E;grind
   ·have:=m.low _ _ _ J N;grind
   ·omega
  ·rcases d i _ G with g | ⟨g,u⟩
   ·have:=m.low _ _ _ g E;simp;omega
   grind
  ·rcases d i _ G with g | ⟨g,u⟩
   ·exact m.et _ _ _ g E
   grind
  ·rcases d b _ n with g | ⟨g,u⟩
   ·have H:=dP g;obtain ⟨c,e,f,C,y,K,T,B,L⟩:=m.cells b x g;refine ⟨c,e,f,C,y,?_,?_,B.imp id (·.mono F),L⟩
    ·show (v.heap.push o)[b]? =_;rw[h (by rw[m.size];exact H)];exact K
    grind
   ·cases u;subst g;obtain ⟨c,e,f,C,y,rfl,rfl,B,L⟩:=O R;exact ⟨c,e,f,C,y,t,s,B.imp id (·.mono F),L⟩
  ·rcases d b _ n with g | ⟨g,u⟩
   ·have H:=dP g;obtain ⟨a,D,l,K,T,B⟩:=m.num b x g;refine ⟨a,D,l,?_,?_,B.mono F⟩
    ·show (v.heap.push o)[b]? =_;rw[h (by rw[m.size];exact H)];exact K
    grind
   ·cases u;subst g;obtain ⟨a,D,l,rfl,rfl,B⟩:=P R;exact ⟨a,D,l,t,s,B.mono F⟩
 ·refine ⟨F,λb x p n=> ?_,YR,λx H _=>A H,R,R,R,R,Nat.le_refl _,Nat.add_comm _ _,YR,λb n=> ?_,λb n=> ?_,λz c e f W=> ?_⟩
  ·rcases d b _ n with g | ⟨_,u⟩
   ·exact .inl g
   ·cases u;exact .inr (Nat.le_refl _)
  ·unfold Dc;rw[h n]
  ·unfold Wb;rw[h n]
  grind
theorem SS.new {c:Array h7}(t:j4)(h:aB r c y):SS P r (λr' a b=>r'[a]? =S (b,.cells)) (newObj (.cells c t)) (newObj (.cells y t)):=by intro v w j l n f m;refine ⟨λu g d e _=> ?_,λx g d e _=>by simp[E5,j2, -p6]at e⟩;unfold E5 at e ⊢;simp only[j2,j3,j8]at e ⊢;obtain ⟨⟨rfl,rfl⟩,rfl⟩:=e;obtain ⟨p,q,s⟩:=f.push (o:= .cells c t) (o':= .cells y t) (k:= .cells) YQ (λ_=>⟨c,t,(0,0),y,(0,0),R,R,.inr h,λk _ _ i=>absurd i (Nat.not_lt_zero _)⟩) (λe=>by cases e);grind
theorem SS.LB(l:Bool)(h:RA r n M):SS P r (λc n b=>c[n]? =S (b,.num)) (newObj (.number n l)) (newObj (.number M l)):=by intro v w g i j d m;refine ⟨λu f a e _=> ?_,λx f a e _=>by simp[E5,j2, -p6]at e⟩;unfold E5 at e ⊢;simp only[j2,j3,j8]at e ⊢;obtain ⟨⟨rfl,rfl⟩,rfl⟩:=e;obtain ⟨p,q,s⟩:=d.push (o:= .number n l) (o':= .number M l) (k:= .num) YQ (λe=>by cases e) (λ_=>⟨n,M,l,R,R,h⟩);grind
end
inductive aZ {α:Type}(Q:α->Prop):u1 α->Prop
 | pure {a:α}:Q a->aZ Q (.pure a)
 | choose {q:k9} {k:Nat->u1 α}:(∀n,aZ Q (k n))->aZ Q (.choose q k)
 | program {k:j6->u1 α}:(∀p,aZ Q (k p))->aZ Q (.program k)
 | halt {h:Halt}:iJ h->aZ Q (.halt h)
section
variable {β:Type}
theorem aZ.bind {Q:o->Prop}{R:β->Prop}{s:u1 o}{k:o->u1 β}(h:aZ Q s)(c: ∀a,Q a->aZ R (k a)):aZ R (s>>=k):=by
 change aZ R (s.bind k);induction h with
 | pure h=>exact c _ h
 | choose _ b=>exact .choose b
 | program _ b=>exact .program b
 | halt h=>exact .halt h
theorem aZ.mono {Q R:o->Prop}{s:u1 o}(h:aZ Q s)(c: ∀a,Q a->R a):aZ R s:=by
 induction h with
 | pure h=>exact .pure (c _ h)
 | choose _ b=>exact .choose b
 | program _ b=>exact .program b
 | halt h=>exact .halt h
theorem aZ.stop {Q:o->Prop}{h:Halt}(a:iJ h:=by trivial):aZ Q (.halt h:u1 o):= .halt a
theorem aZ.ret {Q:o->Prop}{a:o}(h:Q a):aZ Q (l9 a:u1 o):= .pure h
theorem aZ.ch {Q:Nat->Prop}(q:k9)(h: ∀n,Q n):aZ Q (q7 q):= .choose λn=> .pure (h n)
theorem aZ.prog:aZ (λ_=>True) r6:= .program λ_=> .pure trivial
theorem aZ.ss {Q:o->Prop}{s:u1 o}(h:aZ Q s):SS P r (λ_ a b=>a=b/\Q a) s s:=by
 induction h generalizing r with
 | pure h=>exact SS.pure ⟨R,h⟩
 | @choose q k _ c=>
  have:SS P r (λ_ a b=>a=b/\Q a) (q7 q>>=k) (q7 q>>=k):=by refine SS.bind (SS.choose q) ?_;rintro d a _ e rfl;exact c a
  exact this
 | @program k _ c=>
  have:SS P r (λ_ a b=>a=b/\Q a) (r6>>=k) (r6>>=k):=by refine SS.bind SS.program ?_;rintro d a b e ⟨rfl,rfl⟩;exact c _
  exact this
 | halt h=>exact SS.halt h
theorem aZ.vr {s:u1 h7}(h:aZ Plain s):SS P r VR s s:=h.ss.mono (λd a b _ c=>by obtain ⟨rfl,e⟩:=c;exact e.vr d)
theorem SS.ik {Q:o->Prop}{R:aU->β->β->Prop}{s:u1 o}{k l:o->u1 β}(h:aZ Q s)(c: ∀b a,Ext r b->Q a->SS P b R (k a) (l a)):SS P r R (s>>=k) (s>>=l):=by refine SS.bind h.ss ?_;grind
theorem cL (t:j4):aZ (λ_=>True) (y3 t):=by
 unfold y3;refine aZ.prog.bind λp _=> ?_;split
 ·exact .ret trivial
 ·exact .stop
theorem da (t:j4):aZ (λ_=>True) (j9 t):=by
 unfold j9;refine aZ.prog.bind λp _=> ?_;split
 ·exact .ret trivial
 ·exact .stop
theorem dm (t:j4):aZ (λ_=>True) (sizeOf t):=(cL t).bind λ_ _=> .ret trivial
theorem yP (t:j4):aZ (λ_=>True) (isAgg t):=by
 unfold isAgg;refine (da t).bind λd _=> ?_;split
 ·exact .ret trivial
 ·exact .ret trivial
 ·exact .ret trivial
theorem eD (e:RuntimeError)(h: ∀a b c d,e≠ .typeAssertion a b c d)(f:e≠ .panicNil){Q:o->Prop}:aZ Q (runtimePanic e:u1 o):=by unfold runtimePanic;refine aZ.prog.bind λp _=> ?_;cases e<;>first | exact .stop | exact absurd rfl (h _ _ _ _) | grind
theorem gf (k:x2)(x y:Int)(c:BoundsCode){Q:o->Prop}:aZ Q (boundsPanic k x y c:u1 o):=by
 unfold boundsPanic;dsimp only;split
 ·rw[map_eq_pure_bind];exact ((aZ.ch (Q:=λ_=>True) _ (λ_=>trivial)).bind (R:=λ_=>True) λa _=> .ret trivial).bind λa _=>eD _ YR YR
 ·exact (aZ.ret (Q:=λ_=>True) trivial).bind λa _=>eD _ YR YR
theorem fZ (k:x2)(n:Int):Plain (.int k n):= .int k n
theorem iK (b:Bool):Plain (.bool b):= .bool b
theorem dk (k:m6)(b:Nat):Plain (.float k b):= .float k b
theorem gu (k:m6)(a b:Nat):Plain (.complex k a b):= .complex k a b
theorem jO (s:ByteArray):Plain (.string s):= .string s
theorem lE (a:p7)(k:x2)(x y:Int):aZ Plain (K5 a k x y):=by unfold K5;split<;>first | exact .pure (fZ _ _) | exact .stop
theorem tG (a:p7)(k:x2)(x y:Int):aZ Plain (L3 a k x y):=by unfold L3;dsimp only;split<;>first | exact .pure (fZ _ _) | exact .stop
theorem oj (a:p7)(x y:Int):aZ Plain (Op.intCmp a x y):=by unfold Op.intCmp;split<;>first | exact .pure (iK _) | exact .stop
theorem wD (a:p7)(k:x2)(x y:Int):aZ Plain (Op.intDiv a k x y):=by
 unfold Op.intDiv;repeat' split
 all_goals first | exact eD _ YR YR | exact .pure (fZ _ _) | exact .stop
theorem yQ (a:p7)(k b:x2)(x y:Int):aZ Plain (Op.shift a k x b y):=by
 unfold Op.shift;dsimp only;repeat' split
 all_goals first | exact eD _ YR YR | exact .pure (fZ _ _) | exact .stop
theorem jX (e:p7)(k:m6)(x y:Nat):aZ (λv=> ∃b,v= .float k b) (I9 e k x y):=by
 have d: ∀a:Option Nat,aZ (λv=> ∃b,v=F6 k b) (match a with
   | some r=>l9 (F6 k r)
   | none=>do
    let c<-Go.choose (Question.nanBits k x y);l9 (F6 k c):u1 h7):=λa=>by
  split
  ·exact .pure ⟨_,R⟩
  ·exact (aZ.ch (Q:=λ_=>True) _ (λ_=>trivial)).bind λn _=> .ret ⟨n,R⟩
 unfold I9;dsimp only;split
 ·exact (aZ.ret (Q:=λ_=>True) trivial).bind λa _=>d a
 ·exact (aZ.ret (Q:=λ_=>True) trivial).bind λa _=>d a
 ·exact (aZ.ret (Q:=λ_=>True) trivial).bind λa _=>d a
 ·exact (aZ.ret (Q:=λ_=>True) trivial).bind λa _=>d a
 ·exact .stop
theorem jo (a:p7)(k:m6)(x y:Nat):aZ Plain (K6 a k x y):=by unfold K6;dsimp only;split<;>first | exact .pure (iK _) | exact .stop
theorem kM (v:h7):aZ (λ_=>True) (asBool v):=by
 unfold asBool;split
 ·exact .ret trivial
 ·exact .stop
theorem aP (c:p7)(k:m6)(x y:Nat):aZ (λ_=>True) (E6 c k x y):=by unfold E6;refine (jX c k x y).bind λa d=> ?_;obtain ⟨b,rfl⟩:=d;exact .ret trivial
theorem fN (b:p7)(k:m6)(x y:Nat):aZ (λ_=>True) (L9 b k x y):=(jo b k x y).bind λa _=>kM a
theorem kN (e:p7)(k:m6)(a b c d:Nat)(h:e≠ .mul/\e≠ .quo):aZ Plain (n7 e k a b c d):=by
 unfold n7;split
 ·exact (aP _ _ _ _).bind λ_ _=>(aP _ _ _ _).bind λ_ _=> .ret (gu _ _ _)
 ·exact (aP _ _ _ _).bind λ_ _=>(aP _ _ _ _).bind λ_ _=> .ret (gu _ _ _)
 ·grind
 ·grind
 ·exact (fN _ _ _ _).bind λ_ _=>(fN _ _ _ _).bind λ_ _=> .ret (iK _)
 ·exact (fN _ _ _ _).bind λ_ _=>(fN _ _ _ _).bind λ_ _=> .ret (iK _)
 ·exact .stop
theorem fj (c:p7)(a b:ByteArray):aZ Plain (K7 c a b):=by
 unfold K7;repeat' split
 all_goals first | exact .pure (jO _) | exact .pure (iK _) | exact .stop
end
section
variable {P:Program}{r:aU}
def RN (r:aU)(a b:n5):Prop:=r[a.block]? =S (b.block,.num)/\a.off=b.off/\a.spot=b.spot
def RX (r:aU)(a b:n5):Prop:=RA r a b\/RN r a b
theorem RX.mono {s:aU}{a b:n5}(h:RX r a b)(k:Ext r s):RX s a b:=h.imp (·.mono k) (λh=>⟨k _ _ h.1,h.2⟩)
theorem RA.add {a b:n5}(h:RA r a b)(n:Nat):RA r (a.add n) (b.add n):=by
 unfold M0;split
 ·exact h
 ·exact ⟨h.1,by simp[h.2.1],R⟩
theorem RX.add {a b:n5}(h:RX r a b)(n:Nat):RX r (a.add n) (b.add n):=by
 rcases h with h | h
 ·exact .inl (h.add n)
 ·refine .inr ?_;unfold M0;split
  ·exact h
  ·exact ⟨h.1,by simp[h.2.1],R⟩
theorem VR.JI(h:RX r n M):VR r (.pointer (S n)) (.pointer (S M)):=h.elim .ptr (λh=> .num h.1 h.2.1 h.2.2)
theorem VR.rx(h:VR r (.pointer (S n)) x): ∃b,x= .pointer (S b)/\RX r n b:=by
 cases h with
 | ptr h=>exact ⟨_,R,.inl h⟩
 | num h a c=>exact ⟨_,R,.inr ⟨h,a,c⟩⟩
theorem vI(b:dA r C w)(h:RN r n M):C.cell? n=none/\ ∃p l,C.heap[n.block]? =S (.number p l):=by obtain ⟨p,_,l,a,_⟩:=b.num _ _ h.1;exact ⟨by unfold F5;rw[a],p,l,a⟩
theorem SS.JD(a:RX r n M):SS P r VR (B4 n) (B4 M):=by
 rcases a with a | a
 ·exact SS.load a
 ·intro v w h i _ f _;obtain ⟨c,p,l,d⟩:=vI f a;refine ⟨λx g b e _=> ?_,λx g b e _=> ?_⟩
  ·unfold B4 at e;simp only[j2,c,B8,d]at e;simp at e
  ·unfold B4 at e;simp only[j2,c,B8,d,z7,j3,m3]at e;rw[<-e.1.1];trivial
theorem SS.Ml(b:RX r n M)(i:VR r x z):SS P r (λ_ _ _=>True) (x4 n x) (x4 M z):=by
 rcases b with b | b
 ·exact SS.store b i
 ·intro v w f m _ j _;obtain ⟨g,p,l,h⟩:=vI j b;refine ⟨λu k d e _=> ?_,λu k d e _=> ?_⟩
  ·by_cases a:(∀c,x≠ .agg c)/\(∀c,x≠ .tuple c)
   ·rw[iM n x v f a.1 a.2,g]at e;simp only[q2,h]at e;simp at e
   ·exfalso;unfold x4 at e;cases x<;>simp[j2, -p6]at a e
  ·by_cases a:(∀c,x≠ .agg c)/\(∀c,x≠ .tuple c)
   ·rw[iM n x v f a.1 a.2,g]at e;simp only[q2,h,z7,j3,m3]at e;rw[<-e.1.1];trivial
   ·unfold x4 at e;cases x<;>first | (simp at a;done) | skip
    all_goals
     simp only[j2,j3,m3]at e;rw[<-e.1.1];trivial
theorem aB.nil:aB r #[] #[]:=⟨R,λi x y h _=>by simp at h⟩
theorem aB.push {c d:Array h7}(h:aB r c d){x y:h7}(f:VR r x y):aB r (c.push x) (d.push y):=by
 refine ⟨by simp[h.1],λi p q a b=> ?_⟩;rw[B5]at a b;rw[h.1]at a;split at a
 ·grind
 ·rename_i e;rw[if_neg e]at b;exact h.2 i p q a b
theorem aB.append {d e:Array h7}(h:aB r y V)(f:aB r d e):aB r (y ++ d) (V ++ e):=by
 refine ⟨by simp[h.1,f.1],λi p q a b=> ?_⟩;rw[Array.getElem?_append]at a b;rw[h.1]at a;split at a
 ·rename_i c;rw[if_pos c]at b;exact h.2 i p q a b
 ·rename_i c;rw[if_neg c]at b;exact f.2 _ p q a b
theorem aB.cells {x y:Value}(h:VR r x y):aB r x.cells y.cells:=by
 have one: ∀ {p q:Value},VR r p q->aB r #[p] #[q]:=λf=>by have:=(aB.nil (r:=r)).push f;assumption
 cases h with
 | agg d e=>exact ⟨d,e⟩
 | bool b=>exact one (.bool b)
 | int k n=>exact one (.int k n)
 | float k b=>exact one (.float k b)
 | complex k a b=>exact one (.complex k a b)
 | string t=>exact one (.string t)
 | vV=>exact one .vV
 | ptr h=>exact one (.ptr h)
 | num h d e=>exact one (.num h d e)
 | eQ n c=>exact one (.eQ n c)
 | slice n c h=>exact one (.slice n c h)
 | chan h=>exact one (.chan h)
 | mG=>exact one .mG
 | func fn g d e j l=>exact one (.func fn g d e j l)
 | nilFunc=>exact one .nilFunc
 | qH y h=>rw[show y.cells= #[y] by cases y<;>first | rfl | exact h.elim];exact one (.qH y h)
 | nilIface=>exact one .nilIface
 | tuple h i=>exact one (.tuple h i)
theorem aB.vr(h:aB r y V):VR r (.agg y) (.agg V):= .agg h.1 h.2
theorem aB.list {d:Array h7}(h:aB r y d): ∀ (i:Nat) x a,y.toList[i]? =S x->d.toList[i]? =S a->VR r x a:=λi x a b c=>h.2 i x a YS YS
theorem jG {a b:n5}: ∀ (n i:Nat){r:aU}(c d:Array Value),RX r a b->aB r c d->SS P r aB (loadCellsFrom a i n c) (loadCellsFrom b i n d)
 | 0,_,_,_,_,_,h=>SS.pure h
 | n + 1,i,r,c,d,e,h=>by unfold loadCellsFrom;refine SS.bind (SS.JD (e.add i)) λj x y f g=> ?_;exact jG n (i + 1) _ _ (e.mono f) ((aB.mono f h).push g)
theorem nj(b:RX r n M)(a:Nat):SS P r aB (loadCells n a) (loadCells M a):=jG a 0 _ _ b .nil
theorem qq (t:j4)(b:RX r n M):SS P r VR (loadVar t n) (loadVar t M):=by
 unfold loadVar;refine SS.ik (yP t) λi g e _=> ?_;split
 ·refine SS.ik (dm t) λj f a _=> ?_;exact SS.bind (nj ((b.mono e).mono a) f) λk c d _ h=>SS.pure h.vr
 ·exact SS.JD (b.mono e)
theorem jm {a b:n5}: ∀ (l m:List Value)(i:Nat){r:aU},RX r a b->l.length=m.length->(∀ (j:Nat) x y,l[j]? =S x->m[j]? =S y->VR r x y)->SS P r (λ_ _ _=>True) (storeCells a l i) (storeCells b m i)
 | [],[],_,_,_,_,_=>SS.pure trivial
 | x::l,y::m,i,r,c,e,h=>by unfold storeCells;refine SS.bind (SS.Ml (c.add i) (h 0 x y R R)) λf _ _ d _=> ?_;exact jm l m (i + 1) (c.mono d) YS λj p q g k=>(h (j + 1) p q (by assumption) (by assumption)).mono d
theorem wq (t:j4)(c:RX r n M)(d:VR r x z):SS P r (λ_ _ _=>True) (K8 t n x) (K8 t M z):=by
 have a:=aB.cells d;unfold K8;refine SS.ik (dm t) λe f b _=> ?_;rw[<-a.1];dsimp only;split
 ·exact SS.halt
 ·exact jm _ _ 0 (c.mono b) (by simpa using a.1) (aB.list (aB.mono b a))
theorem iy (t:j4)(h:aB r y V):SS P r RA (newRow t y) (newRow t V):=by unfold newRow;exact SS.bind (SS.new t h) λd a b _ c=>SS.pure ⟨c,R,R⟩
theorem si (t:j4)(h:VR r x z):SS P r RA (newVar t x) (newVar t z):=iy t (aB.cells h)
def ZT (P:j6)(t:j4):Prop:= ∀i z,P.info? t=S i->i.zero=S z->Plain z
theorem qu (t:j4):SS P r (λ_ a b=>a=b/\P.underlying t=some a) (j9 t) (j9 t):=by
 unfold j9;refine SS.bind SS.program ?_;rintro c _ b e ⟨rfl,rfl⟩;cases f:b.underlying t with
 | none=>exact SS.halt
 | some d=>exact SS.pure ⟨R,R⟩
theorem eY(d:ZT P H):SS P r (λ_ a b=>a=b/\Plain a) (J5 H) (J5 H):=by
 unfold J5 y3;simp only[bind_assoc];refine SS.bind SS.program ?_;rintro f _ b g ⟨rfl,rfl⟩;cases e:b.info? H with
 | none=>exact SS.halt
 | some i=>
  simp only[pure_bind];cases c:i.zero with
  | none=>exact SS.halt
  | some z=>exact SS.pure ⟨R,d i z e c⟩
theorem iZ(a:VR r x z):SS P r RX (H4 x) (H4 z):=by
 cases a<;>first | exact SS.halt | skip
 ·rename_i h;exact SS.pure (.inl h)
 ·rename_i h b c;exact SS.pure (.inr ⟨h,b,c⟩)
theorem Ci (t:j4)(a:VR r x z):SS P r VR (J8 t x) (J8 t z):=
 SS.bind (iZ a) λ_ _ _ _ h=>qq t h
theorem yI (t:j4){q:h7}(a:VR r x z)(b:VR r X q):SS P r (λ_ _ _=>True) (J0 t x X) (J0 t z q):=
 SS.bind (iZ a) λ_ _ _ c h=>wq t h (b.mono c)
theorem Fw(c:ZT P H):SS P r VR (F7 H true (.tuple #[])) (F7 H true (.tuple #[])):=by unfold F7;refine SS.bind (eY c) ?_;rintro d z _ f ⟨rfl,e⟩;exact SS.bind (si H (e.vr d)) λg a b _ h=>SS.pure (.ptr h)
theorem Md (t:j4)(a:VR r x z):SS P r VR (L6 t x) (L6 t z):=
 SS.bind (si t a) λ_ _ _ _ h=>SS.pure (.ptr h)
end
section
variable {P:Program}{β:Type}{r:aU}
theorem aB.zD: ∀ (l m:List (Value×Nat))(a:Nat)(c d:Array Value),aB r c d->l.length=m.length->(∀ (i:Nat) x y,l[i]? =S x->m[i]? =S y->VR r x.1 y.1/\x.2=y.2)->
  aB r (l.foldl (λb (x:Value×Nat)=>b.setIfInBounds (a + x.2) x.1) c) (m.foldl (λb (x:Value×Nat)=>b.setIfInBounds (a + x.2) x.1) d)
 | [],[],_,_,_,h,_,_=>h
 | x::l,y::m,a,c,d,h,f,e=>by simp only[List.foldl_cons];have:=e 0 x y R R;rw[<-this.2];exact aB.zD l m a _ _ (h.set this.1) YS λi p q g j=>e (i + 1) p q (by assumption) (by assumption)
theorem pH (a:Nat->Option (Nat×Nat)): ∀ (l m:List (Nat×Value))(c d:Array Value),aB r c d->l.length=m.length->(∀ (i:Nat) x y,l[i]? =some x->m[i]? =some y->x.1=y.1/\VR r x.2 y.2)->
  ∀e,o9 a c l=some e-> ∃u,o9 a d m=some u/\aB r e u
 | [],[],c,d,h,_,_,e,b=>by simp only[o9,x5]at b ⊢;grind
 | (i,x)::l,(j,y)::m,c,d,h,C,v,e,b=>by
  obtain ⟨g,n⟩:=v 0 _ _ R R;dsimp only at g n;subst g;simp only[o9]at b ⊢;cases f:a i with
  | none=>grind
  | some q=>
   obtain ⟨s,w⟩:=q;rw[f]at b;have t:=aB.cells n;dsimp only at b ⊢;rw[<-t.1,<-h.1];split at b
   ·cases b
   ·rename_i B;rw[if_neg B];refine pH a l m _ _ ?_ YS (λk p q f o=>v (k + 1) p q (by assumption) (by assumption)) e b;rw[<-Array.foldl_toList,<-Array.foldl_toList];refine aB.zD _ _ s _ _ h (by simpa using t.1) λk p q f o=> ?_;simp only[Array.toList_zipIdx,List.getElem?_zipIdx]at f o;cases z:x.cells.toList[k]? with
    | none=>grind
    | some D=>
     cases A:y.cells.toList[k]? with
     | none=>grind
     | some E=>rw[z]at f;rw[A]at o;simp only[Option.map_some,x5]at f o;subst f;subst o;exact ⟨aB.list t k _ _ z A,R⟩
theorem Cn {Q:β->Prop}(f:o->u1 β)(h: ∀a,aZ Q (f a))(l:Array o):aZ (λ_=>True) (l.mapM f):=by
 rw[n9,map_eq_pure_bind];refine aZ.bind (Q:=λ_=>True) ?_ λ_ _=> .ret trivial;induction l.toList with
 | nil=>exact .ret trivial
 | cons a l b=>rw[List.mapM_cons];exact (h a).bind λ_ _=>b.bind λ_ _=> .ret trivial
def PR (r:aU)(l m:Array (Nat×h7)):Prop:=l.size=m.size/\ ∀ (i:Nat) x y,l[i]? =S x->m[i]? =S y->x.1=y.1/\VR r x.2 y.2
theorem PR.mono {s:aU}{l m:Array (Nat×h7)}(h:PR r l m)(k:Ext r s):PR s l m:=⟨h.1,λi x y a b=>⟨(h.2 i x y a b).1,(h.2 i x y a b).2.mono k⟩⟩
theorem PR.fill {l m:Array (Nat×h7)}(h:PR r l m){c d:Array h7}(f:aB r c d)(a:Nat->Option (Nat×Nat)): ∀e,o9 a c l.toList=S e-> ∃b,o9 a d m.toList=S b/\aB r e b:=
 pH a _ _ c d f (by simpa using h.1) λi x y g j=>h.2 i x y YS YS
theorem tz {m:Array (Nat×h7)}(h:PR r W m)(g:aB r y V)(a:Nat->Option (Nat×Nat)){d:aU->o->o->Prop}{k f:Array h7->u1 o}{t i:u1 o}(j: ∃h,t= .halt h/\iJ h)
  (p: ∀e c,aB r e c->SS P r d (k e) (f c)):
  SS P r d (match Instr.fill a y W.toList with | some b=>k b | _=>t) (match Instr.fill a V m.toList with | some b=>f b | _=>i):=by
 cases l:Instr.fill a y W.toList with
 | none=>obtain ⟨x,rfl,n⟩:=j;exact SS.halt n
 | some e=>obtain ⟨c,q,s⟩:=h.fill g a e l;grind
theorem Fy(o:ZT P H){m:Array (Nat×h7)}(h:PR r W m):SS P r VR (F8 H W) (F8 H m):=by
 unfold F8;refine SS.bind (eY o) ?_;rintro p z _ j ⟨rfl,q⟩;have k:=aB.cells (q.vr p);refine SS.ik (da H) λu d b _=> ?_;cases d with
 | struct fields=>dsimp only;refine SS.ik (Cn (Q:=λ_=>True) _ (λf=>(dm f.type).bind λ_ _=> .ret trivial) fields) λs g a _=> ?_;exact tz ((h.mono j).mono (b.trans a)) (aB.mono (b.trans a) k) _ ⟨_,R,trivial⟩ λe t i=>SS.pure i.vr
 | array n c=>dsimp only;refine SS.ik (dm c) λs l a _=> ?_;exact tz ((h.mono j).mono (b.trans a)) (aB.mono (b.trans a) k) _ ⟨_,R,trivial⟩ λe t i=>SS.pure i.vr
 | _=>exact SS.halt
theorem aB.same {c:Array h7}(h: ∀ (i:Nat) x,c[i]? =S x->Plain x):aB r c c:=⟨R,λi x y a b=>by rw[a]at b;cases b;exact (h i x a).vr r⟩
theorem kG(h:Plain z): ∀ (i:Nat) x,z.cells[i]? =S x->Plain x:=λi x a=>(aB.cells h).2 i x x a a
theorem qW:Plain (default:h7):= .bool _
theorem yq(h: ∀ (i:Nat) x,y[i]? =some x->Plain x)(i:Nat):Plain (y[i]!):=by
 rw[getElem!_def];cases a:y[i]? with
 | none=>exact qW
 | some x=>grind
theorem iY(h: ∀ (i:Nat) x,y[i]? =some x->Plain x)(n:Nat):aB r ((Array.range n).map (λi=>y[i % y.size]!)) ((Array.range n).map (λi=>y[i % y.size]!)):=by
 refine aB.same λi x a=> ?_;rw[Array.getElem?_map]at a;cases b:(Array.range n)[i]? with
 | none=>grind
 | some j=>rw[b]at a;cases a;exact yq h _
theorem qY(q: ∀e,P.underlying H=some (.slice e)->ZT P e)(f:Nat){m:Array (Nat×Value)}(h:PR r W m):SS P r VR (y4 H f W) (y4 H f m):=by
 unfold y4;refine SS.bind (qu H) ?_;rintro y d _ o ⟨rfl,s⟩;cases d with
 | slice g=>
  dsimp only;refine SS.ik (dm g) λA b l _=> ?_;split
  ·exact SS.halt
  ·have n: ∀p (c:Array Value),Ext r p->(∀ (i:Nat) x,c[i]? =some x->Plain x)->SS P p VR
     (match o9 (λi=>some (i * b,b)) ((Array.range (f * b)).map λx=>c[x % c.size]!) W.toList with
      | some j=>do
       let a<-newRow g j;l9 (Value.slice (some a) f f)
      | _=>stuck "buildSlice: a part of the wrong size")
     (match o9 (λi=>some (i * b,b)) ((Array.range (f * b)).map λx=>c[x % c.size]!) m.toList with
      | some j=>do
       let a<-newRow g j;l9 (Value.slice (some a) f f)
      | _=>stuck "buildSlice: a part of the wrong size"):=λp c k t=>by
    refine tz (h.mono k) (iY t _) _ ⟨_,R,trivial⟩ λe B u=> ?_;exact SS.bind (iy g u) λ_ _ _ _ v=>SS.pure (.slice _ _ v)
   split
   ·simp only[pure_bind];exact n _ _ (o.trans l) (λi x o=>by simp at o)
   ·simp only[bind_pure_comp];refine SS.bind (eY (q g s)) ?_;rintro p z _ k ⟨rfl,w⟩;exact n _ _ ((o.trans l).trans k) (kG w)
 | _=>exact SS.halt
theorem yE(b:VR r x z)(i:Nat):SS P r VR (C1 x i) (C1 z i):=by
 cases b<;>first | exact SS.halt | skip
 rename_i c h d e;unfold C1;dsimp only;cases f:c[i]? with
 | none=>exact SS.halt
 | some x=>obtain ⟨z,g,a⟩:=aB.get (r:=r) ⟨d,e⟩ f;rw[g];exact SS.pure a
def sR (P:j6)(s:j4)(f:Nat):Bool:=match P.underlying s with
 | some (.struct a)=>match a[f]? with
  | some b=>match P.info? b.type with
   | some i=>i.size !=0
   | none=>false
  | none=>false
 | _=>false
theorem yF (s:j4)(h:VR r x z)(f:Nat)(c:sR P s f=true):SS P r VR (C3 s x f) (C3 s z f):=by
 unfold sR at c;split at c
 ·rename_i o j;split at c
  ·rename_i p d;split at c
   ·rename_i i k;unfold C3 j9;simp only[bind_assoc];refine SS.bind SS.program ?_;rintro q _ b l ⟨rfl,rfl⟩;rw[j];simp only[pure_bind,d];refine SS.bind (iZ (h.mono l)) λt a u m n=> ?_;unfold fieldPlace sizeOf y3;simp only[bind_assoc];refine SS.bind SS.program ?_;rintro v _ b e ⟨rfl,rfl⟩;rw[k];have g:i.size≠0:=by simpa using c
    simp only[pure_bind,if_neg g];exact SS.pure (VR.JI ((n.mono e).add _))
   ·cases c
  ·cases c
 ·cases c
theorem ma(c:VR r x z):SS P r (λ_ a b=>a=b) (asIntOf x) (asIntOf z):=by cases c<;>first | exact SS.halt | exact SS.pure rfl
theorem ni(c:VR r x z):SS P r (λ_ a b=>a=b) (asInt x) (asInt z):=
 SS.bind (ma c) λ_ _ _ _ h=>by subst h;exact SS.pure R
theorem yG (t:TypeId){j:h7}(D:VR r x z)(E:VR r X j):SS P r VR (C4 t x X) (C4 t z j):=by
 have m: ∀ {v:aU}(k:IntKind)(n:Int)(g:Nat)(f:TypeId)(base h:Option Addr),(∃a q,base=some a/\h=some q/\RX v a q)-> ∀i:Bool,SS P v (λs u w=>VR s u w)
   (match base with
    | some a=>if 0<=n/\n<g then do
       let e<-sizeOf f;l9 (J1 (some (a.add (n.toNat * e))))
      else if i=true then unsupported (.noEntry "op/indexAddr.an index out of range at an array of length 0 or 1 (ledger 616)")else boundsPanic k n g .index
    | none=>boundsPanic k n 0 .index)
   (match h with
    | some a=>if 0<=n/\n<g then do
       let e<-sizeOf f;l9 (J1 (some (a.add (n.toNat * e))))
      else if i=true then unsupported (.noEntry "op/indexAddr.an index out of range at an array of length 0 or 1 (ledger 616)")else boundsPanic k n g .index
    | none=>boundsPanic k n 0 .index):=by
  rintro v k n g f base h ⟨a,q,rfl,rfl,o⟩ i;dsimp only;split
  ·exact SS.ik (dm f) λF s y _=>SS.pure (VR.JI ((o.mono y).add _))
  ·split
   ·exact SS.halt
   ·exact (gf _ _ _ _).vr
 unfold C4;refine SS.bind (ma E) ?_;rintro H ⟨k,n⟩ _ y rfl;dsimp only;refine SS.ik (da t) λF d A _=> ?_;have p:=(D.mono y).mono A;cases d with
 | array g f=>dsimp only;simp only[pure_bind];refine SS.bind (iZ p) λI a q G o=> ?_;refine SS.ik (da t) λB C l _=> ?_;exact m k n g f _ _ ⟨_,_,R,R,o.mono l⟩ _
 | slice f=>
  cases p<;>first | exact SS.halt | skip
  ·dsimp only;simp only[pure_bind];refine SS.ik (da t) λB C l _=> ?_;exact (gf _ _ _ _).vr
  ·rename_i a b J c o;dsimp only;simp only[pure_bind];refine SS.ik (da t) λB C l _=> ?_;exact m k n _ f _ _ ⟨_,_,R,R,.inl (o.mono l)⟩ _
 | _=>exact SS.halt
end
theorem SS.Av {a:aU->o->o->Prop}{s t:u1 o}(h:(∃v w,dA r v w)->SS P r a s t):SS P r a s t:=λv w c d n b e=>h ⟨v,w,b⟩ v w c d n b e
theorem SS.shape {a b:n5}(j:RA r a b):SS P r (λ_ x y=> ∃e n m,x=S (e,n)/\y=S (e,m)/\(n=m\/n=0)) (w7 a.block) (w7 b.block):=by
 intro v w s k _ i _;refine ⟨λx l d e _=> ?_,λx l d e _=>by simp_all⟩;unfold w7 at e ⊢;simp only[j2,j3,j8]at e ⊢;obtain ⟨⟨rfl,rfl⟩,rfl⟩:=e;refine ⟨r,_,w,k,⟨⟨R,R⟩,R⟩,i,.refl _ _ _,?_,λ_ h=> .inl h⟩;obtain ⟨c,e,f,o,t,p,q,g,_⟩:=i.cells _ _ j.1;unfold J9;rw[p,q];refine ⟨e,c.size,o.size,R,R,?_⟩;rcases g with rfl | g
 ·simp
 ·exact .inl g.1
theorem SS.Ft(c:RN r n M):SS P r (λ_ x y=>x=none/\y=none) (w7 n.block) (w7 M.block):=by intro v w g d _ b _;refine ⟨λx f a e _=> ?_,λx f a e _=>by simp[w7,j2, -p6]at e⟩;unfold w7 at e ⊢;simp only[j2,j3,j8]at e ⊢;obtain ⟨⟨rfl,rfl⟩,rfl⟩:=e;refine ⟨r,_,w,d,⟨⟨R,R⟩,R⟩,b,.refl _ _ _,?_,λ_ h=> .inl h⟩;obtain ⟨p,i,l,j,k,_⟩:=b.num _ _ c.1;unfold J9;grind
theorem SS.DT(c:RN r n M):SS P r (λh x y=> ∃p a l,x= .number p l/\y= .number a l/\RA h p a) (E7 n.block) (E7 M.block):=by
 intro v w m o _ d _;obtain ⟨p,a,l,f,i,j⟩:=d.num _ _ c.1;refine ⟨λx k b e _=> ?_,λx k b e _=>by simp[E7,j2,f, -p6]at e⟩;unfold E7 at e ⊢;simp only[j2,f,i,j3,j8]at e ⊢;obtain ⟨⟨rfl,rfl⟩,rfl⟩:=e;refine ⟨r,_,w,_,⟨⟨R,R⟩,R⟩,d,.refl _ _ _,⟨p,a,l,R,R,j⟩,λe g=> ?_⟩;rcases Array.mem_push.1 g with g | rfl
 ·grind
 ·exact .inr (.obj c.1)
theorem sj(a:RX r n M):SS P r (λ_ x y=>x=none/\y=none) (viewAt n.block) (viewAt M.block):=by
 unfold viewAt;rcases a with a | a
 ·refine SS.bind (SS.shape a) ?_;rintro c _ _ b ⟨e,f,m,rfl,rfl,_⟩;exact SS.pure ⟨R,R⟩
 ·refine SS.bind (SS.Ft a) ?_;rintro c _ _ b ⟨rfl,rfl⟩;refine SS.bind (SS.DT ⟨b _ _ a.1,a.2⟩) ?_;rintro g _ _ d ⟨p,h,l,rfl,rfl,_⟩;exact SS.pure ⟨R,R⟩
theorem cF(a:RX r n M):SS P r (λb x y=>RA b x.1 y.1/\x.2=y.2) (D5 n) (D5 M):=by
 unfold D5 numberAt;rcases a with a | a
 ·refine SS.bind (R:=λb x y=>x=none/\y=none) ?_ ?_
  ·refine SS.bind (SS.shape a) ?_;rintro b _ _ c ⟨e,g,m,rfl,rfl,_⟩;exact SS.pure ⟨rfl,rfl⟩
  ·rintro b _ _ c ⟨rfl,rfl⟩;exact SS.pure ⟨a.mono c,rfl⟩
 ·refine SS.bind (R:=λb x y=> ∃p d l,x=S (p,l)/\y=S (d,l)/\RA b p d) ?_ ?_
  ·refine SS.bind (SS.Ft a) ?_;rintro b _ _ c ⟨rfl,rfl⟩;refine SS.bind (SS.DT ⟨c _ _ a.1,a.2⟩) ?_;rintro i _ _ f ⟨p,d,l,rfl,rfl,h⟩;exact SS.pure ⟨p,d,l,rfl,rfl,h⟩
  ·rintro b _ _ c ⟨p,d,l,rfl,rfl,h⟩;exact SS.pure ⟨h,rfl⟩
theorem wi(a:RA r n M)(l:Bool):SS P r VR (asNumber n l) (asNumber M l):=
 SS.bind (SS.LB l a) λ_ _ _ _ h=>SS.pure (.num h R R)
theorem nz (p:j6)(d:Nat)(e:j4)(a:Nat)(n:Int):cellAtBytes p d e 0 a n=none:=by
 unfold cellAtBytes;dsimp only;split
 ·rfl
 ·rename_i h;simp only[Nat.zero_mul,Option.bind_eq_bind];cases byteOfCell p d e (a % p.cellsOf e)with
  | none=>rfl
  | some b=>grind
theorem tC (t:j4)(b:RA r n M)(j:VR r x z):SS P r (λl p q=> ∃g h,p= .pointer (some g)/\q= .pointer (some h)/\RA l g h) (p5 #[] t #[.pointer (some n),x]) (p5 #[] t #[.pointer (some M),z]):=by
 unfold p5;dsimp only;refine SS.bind (ni j) ?_;rintro v o _ c rfl;split
 ·refine SS.bind (sj (.inl (b.mono c))) ?_;rintro s _ _ a ⟨rfl,rfl⟩;simp only[Option.isSome_none,Bool.false_eq_true,if_false];exact SS.pure ⟨_,_,R,R,(b.mono c).mono a⟩
 ·split
  ·exact SS.halt
  ·refine SS.bind (SS.shape (b.mono c)) ?_;rintro s _ _ a ⟨e,k,m,rfl,rfl,d⟩;dsimp only;refine SS.bind SS.program ?_;rintro w _ p f ⟨rfl,rfl⟩;have i:=((b.mono c).mono a).mono f;rcases d with rfl | rfl
   ·rw[<-b.2.1];cases cellAtBytes p p.depth e (k / p.cellsOf e) n.off o with
    | none=>exact SS.halt
    | some u=>exact SS.pure ⟨_,_,R,R,i.1,R,i.2.2⟩
   ·rw[Nat.zero_div,nz];exact SS.halt
theorem iP (t:j4){q:h7}(h:VR r x z)(i:VR r X q)(e: ∃a,x= .pointer a):SS P r VR (x6 t x X) (x6 t z q):=by
 unfold x6 j9;simp only[bind_assoc];refine SS.bind SS.program ?_;rintro u _ k c ⟨rfl,rfl⟩;cases v:k.underlying t with
 | none=>exact SS.halt
 | some d=>
  simp only[pure_bind];split
  ·exact SS.halt
  obtain ⟨a,rfl⟩:=e;cases a with
  | none=>
   have m:z= .pointer none:=by cases h;rfl
   subst m;dsimp only;unfold p5;dsimp only;refine SS.bind (ni (i.mono c)) ?_;rintro o n _ f rfl;split
   ·exact SS.halt
   ·split<;>exact SS.halt
  | some a=>obtain ⟨b,rfl,g⟩:=h.rx;dsimp only;refine SS.bind (cF (g.mono c)) ?_;rintro o ⟨w,l⟩ ⟨y,A⟩ f ⟨j,rfl⟩;dsimp only at j ⊢;refine SS.bind (tC t j ((i.mono c).mono f)) ?_;rintro B _ _ p ⟨C,D,rfl,rfl,s⟩;exact wi s l
theorem tB {Q:aU->Nat×Nat->Nat×Nat->Prop}(g:P.globals.size<=1)(h:RA r n M)(c:n5){t:u1 (Nat×Nat)}:SS P r Q (D6 n c) t:=by
 refine SS.Av λ⟨v,w,d⟩=> ?_;have b:=(d.et _ _ _ h.1 YQ).1;intro v w i j _ _ _;refine ⟨λx f a e _=> ?_,λx f a e _=> ?_⟩
 ·unfold D6 r6 at e;simp only[L8,H5,j2]at e;rw[if_pos YS]at e;simp[unsupported,H5,j2, -p6]at e
 ·unfold D6 r6 at e;simp only[L8,H5,j2]at e;rw[if_pos YS]at e;simp only[unsupported,H5,j2,j3,m3]at e;rw[<-e.1.1];trivial
theorem Cg(b:RA r n M):SS P r (λ_ x y=>x=y) (byteOf n) (byteOf M):=by
 unfold byteOf;rw[<-b.2.2];cases n.spot with
 | some s=>exact SS.pure R
 | none=>
  dsimp only;refine SS.bind SS.program ?_;rintro g _ c a ⟨rfl,rfl⟩;unfold noView;simp only[bind_assoc];refine SS.bind (sj (.inl (b.mono a))) ?_;rintro h _ _ d ⟨rfl,rfl⟩;simp only[Option.isSome_none,Bool.false_eq_true,if_false,pure_bind];refine SS.bind (SS.shape ((b.mono a).mono d)) ?_;rintro i _ _ f ⟨e,k,m,rfl,rfl,_⟩;dsimp only;rw[<-b.2.1];split
  ·exact SS.pure R
  ·cases byteOfCell c c.depth e (n.off % c.cellsOf e)with
   | none=>exact SS.halt
   | some q=>exact SS.pure R
theorem lZ (k:x2)(b:RA r n M)(c:Int):SS P r VR (H6 k n c) (H6 k M c):=by
 unfold H6;refine SS.bind (SS.shape b) ?_;rintro g _ _ d ⟨e,i,m,rfl,rfl,_⟩;dsimp only;refine SS.ik (cL e) λh i a _=> ?_;split
 ·exact SS.halt
 ·refine SS.bind (Cg ((b.mono d).mono a)) ?_;rintro j s _ f rfl;exact SS.pure (.int _ _)
def iU:p7->Bool
 | .add | .sub | .mul | .quo | .rem | .and | .or | .andNot | .shr | .lss | .leq | .gtr | .geq=>true
 | _=>false
theorem dC (k:m6)(x:Nat)(d:m6):aZ (λ_=>True) (Op.Complex.conv k x d):=by
 unfold Op.Complex.conv;split
 ·exact .ret trivial
 ·refine aZ.bind (Q:=λv=> ∃b,v= .float d b) ?_ ?_
  ·unfold x7;split
   ·grind
   ·split
    ·exact (aZ.ch (Q:=λ_=>True) _ (λ_=>trivial)).bind λn _=> .ret ⟨_,R⟩
    ·exact .ret ⟨_,R⟩
    ·dsimp only;split
     ·exact (aZ.ch (Q:=λ_=>True) _ (λ_=>trivial)).bind λn _=> .ret ⟨_,R⟩
     ·exact .ret ⟨_,R⟩
  ·rintro a ⟨b,rfl⟩;exact .ret trivial
theorem tH (a b c d:Nat):aZ (λ_=>True) (C7 a b c d):=by unfold C7 H7 H8 H9;exact (aP _ _ _ _).bind λ_ _=>(aP _ _ _ _).bind λ_ _=>(aP _ _ _ _).bind λ_ _=>(aP _ _ _ _).bind λ_ _=>(aP _ _ _ _).bind λ_ _=>(aP _ _ _ _).bind λ_ _=> .ret trivial
theorem Ck (k:m6)(a b c d:Nat):aZ Plain (n7 .mul k a b c d):=by unfold n7;dsimp only;refine (dC _ _ _).bind λa _=>(dC _ _ _).bind λb _=>(dC _ _ _).bind λc _=>(dC _ _ _).bind λd _=> ?_;exact (tH _ _ _ _).bind λp _=>(dC _ _ _).bind λ_ _=>(dC _ _ _).bind λ_ _=> .ret (gu _ _ _)
theorem kO (s a b c d:Nat):aZ (λ_=>True) (A6 s a b c d):=by
 unfold A6 H7 H8 H9;repeat' first
  | exact .ret trivial
  | refine (aP _ _ _ _).bind λ_ _=> ?_
theorem qz (a b c d e f:Nat)(k:Bool->u1 (Nat×Nat))(h:k=λg=>if (!(Op.Complex.isNaN e && Op.Complex.isNaN f))=true then pure (e,f)else if (g && (!Op.Complex.isNaN a || !Op.Complex.isNaN b))=true then do
   pure (<-Op.Complex.mul (Op.Complex.copysign Op.Complex.inf c) a,<-Op.Complex.mul (Op.Complex.copysign Op.Complex.inf c) b)
  else if ((Op.Complex.isInf a || Op.Complex.isInf b) && Op.Complex.isFinite c && Op.Complex.isFinite d)=true then Op.Complex.corrected Op.Complex.inf (Op.Complex.inf2one a) (Op.Complex.inf2one b) c d
  else if ((Op.Complex.isInf c || Op.Complex.isInf d) && Op.Complex.isFinite a && Op.Complex.isFinite b)=true then Op.Complex.corrected 0 a b (Op.Complex.inf2one c) (Op.Complex.inf2one d)
  else pure (e,f)) (z:Bool):aZ (λ_=>True) (k z):=by
 subst h;dsimp only;split
 ·exact .ret trivial
 split
 ·unfold Op.Complex.mul;exact (aP _ _ _ _).bind λ_ _=>(aP _ _ _ _).bind λ_ _=> .ret trivial
 split
 ·exact kO _ _ _ _ _
 split
 ·exact kO _ _ _ _ _
 ·exact .ret trivial
theorem re (a b c d:Nat):aZ (λ_=>True) (B6 a b c d):=by
 unfold B6;refine (fN _ _ _ _).bind λg _=> ?_;cases g
 ·simp only[h6,if_false,pure_bind];refine (aP _ _ _ _).bind λh _=>(aP _ _ _ _).bind λ_ _=>(aP _ _ _ _).bind λi _=>(aP _ _ _ _).bind λ_ _=>(aP _ _ _ _).bind λ_ _=>(aP _ _ _ _).bind λe _=>(aP _ _ _ _).bind λ_ _=>(aP _ _ _ _).bind λ_ _=>(aP _ _ _ _).bind λf _=> ?_;exact (fN _ _ _ _).bind λ_ _=>(fN _ _ _ _).bind λ_ _=>qz a b c d e f _ R _
 ·simp only[if_true,pure_bind];refine (aP _ _ _ _).bind λh _=>(aP _ _ _ _).bind λ_ _=>(aP _ _ _ _).bind λi _=>(aP _ _ _ _).bind λ_ _=>(aP _ _ _ _).bind λ_ _=>(aP _ _ _ _).bind λe _=>(aP _ _ _ _).bind λ_ _=>(aP _ _ _ _).bind λ_ _=>(aP _ _ _ _).bind λf _=> ?_;exact (fN _ _ _ _).bind λ_ _=>(fN _ _ _ _).bind λ_ _=>qz a b c d e f _ R _
theorem Cm (k:m6)(a b c d:Nat):aZ Plain (n7 .quo k a b c d):=by unfold n7;dsimp only;refine (dC _ _ _).bind λa _=>(dC _ _ _).bind λb _=>(dC _ _ _).bind λc _=>(dC _ _ _).bind λd _=> ?_;exact (re _ _ _ _).bind λp _=>(dC _ _ _).bind λ_ _=>(dC _ _ _).bind λ_ _=> .ret (gu _ _ _)
theorem tF (e:p7)(g:iU e=true)(k:m6)(a b c d:Nat):aZ Plain (n7 e k a b c d):=by
 by_cases h:e= .mul
 ·subst h;exact Ck k a b c d
 ·by_cases f:e= .quo
  ·subst f;exact Cm k a b c d
  ·exact kN e k a b c d ⟨h,f⟩
theorem wA (c:p7)(d:iU c=true)(t:j4)(k e:x2)(a b:Int):aZ Plain (w8 c t (.int k a) (.int e b)):=by
 cases c<;>first | cases d | skip
 all_goals unfold w8
 all_goals dsimp only
 all_goals first
  | exact yQ _ _ _ _ _
  | (split<;>first | exact .stop | exact lE _ _ _ _ | exact wD _ _ _ _ | exact tG _ _ _ _ | exact oj _ _ _)
theorem rb (c:p7)(d:iU c=true)(t:j4)(k e:m6)(a b:Nat):aZ Plain (w8 c t (.float k a) (.float e b)):=by
 have f:=λc=>(jX c k a b).mono λv ⟨x,g⟩=>g▸dk _ _;cases c<;>first | cases d | skip
 all_goals unfold w8
 all_goals dsimp only
 all_goals
  split
  ·exact .stop
  ·first | exact f _ | exact jo _ _ _ _
theorem oB (e:p7)(f:iU e=true)(t:j4)(k g:m6)(a b c d:Nat):aZ Plain (w8 e t (.complex k a b) (.complex g c d)):=by
 have h:=tF e f k a b c d;cases e<;>first | cases f | skip
 all_goals unfold w8
 all_goals dsimp only
 all_goals
  split
  ·exact .stop
  ·exact h
theorem qx (c:p7)(d:iU c=true)(t:j4)(a b:ByteArray):aZ Plain (w8 c t (.string a) (.string b)):=by
 have e:=fj c a b;cases c<;>first | cases d | skip
 all_goals unfold w8
 all_goals exact e
theorem AM (f:p7)(g:iU f=true)(t:j4)(x y:h7)(i: ∀a,x≠ .pointer a)(j: ∀a,y≠ .pointer a)(l: ∀k e a b,x= .int k a->y≠ .int e b)(m: ∀k e a b,x= .float k a->y≠ .float e b)
  (n: ∀k e a b c d,x= .complex k a b->y≠ .complex e c d)(o: ∀a b,x= .string a->y≠ .string b): ∃h,w8 f t x y= .halt h/\iJ h:=by
 cases f<;>first | cases g | skip
 all_goals
  cases x<;>first | exact absurd rfl (i _) | skip
  all_goals
   cases y<;>first | exact absurd rfl (j _) | exact absurd rfl (l _ _ _ _ rfl) | exact absurd rfl (m _ _ _ _ rfl) | exact absurd rfl (n _ _ _ _ _ _ rfl) | exact absurd rfl (o _ _ rfl) | exact ⟨_,rfl,trivial⟩
theorem SS.OB {a:aU->o->o->Prop}{s t:u1 o}(h: ∃h,s= .halt h/\iJ h):SS P r a s t:=by obtain ⟨x,rfl,b⟩:=h;exact SS.halt b
theorem Fx (T:P.globals.size<=1)(f:p7)(g:iU f=true)(t:j4)(M:P.underlying t≠some .unsafePointer){q:Value}(j:VR r x z)(m:VR r X q):SS P r VR (binOp f t x X) (binOp f t z q):=by
 have B: ∀ {a:Option Addr}{N X q:Value},VR r (.pointer a) N->VR r X q->SS P r VR (x6 t (.pointer a) X) (x6 t N q):=λh V=>iP t h V ⟨_,rfl⟩;by_cases y: ∃a,x= .pointer a
 ·obtain ⟨a,rfl⟩:=y;cases a with
  | none=>
   have C:z= .pointer none:=by cases j;rfl
   subst C;cases X with
   | int k n=>
    have u:q= .int k n:=by cases m;rfl
    subst u;cases f<;>first | (exact SS.halt) | (cases g;done) | skip
    ·unfold binOp;dsimp only;unfold j9;simp only[bind_assoc];refine SS.bind SS.program ?_;rintro W _ D v ⟨rfl,rfl⟩;cases E:D.underlying t with
     | none=>exact SS.halt
     | some d=>
      simp only[pure_bind];have Y:d≠ .unsafePointer:=by rintro rfl;exact M E
      split
      ·grind
      ·simp only[h6,if_false];exact iP t (j.mono v) (.int _ _) ⟨_,rfl⟩
    ·exact B j (.int _ _)
   | pointer c=>cases c<;>cases f<;>first | (exact SS.halt) | (cases g)
   | bool b=>cases f<;>first | (exact SS.halt) | (cases g)
   | float k b=>cases f<;>first | (exact SS.halt) | (cases g)
   | complex k a b=>cases f<;>first | (exact SS.halt) | (cases g)
   | string b=>cases f<;>first | (exact SS.halt) | (cases g)
   | slice a b c=>cases f<;>first | (exact SS.halt) | (cases g)
   | map b=>cases f<;>first | (exact SS.halt) | (cases g)
   | chan b=>cases f<;>first | (exact SS.halt) | (cases g)
   | func b c d=>cases f<;>first | (exact SS.halt) | (cases g)
   | nilFunc=>cases f<;>first | (exact SS.halt) | (cases g)
   | iface b c=>cases f<;>first | (exact SS.halt) | (cases g)
   | nilIface=>cases f<;>first | (exact SS.halt) | (cases g)
   | agg b=>cases f<;>first | (exact SS.halt) | (cases g)
   | tuple b=>cases f<;>first | (exact SS.halt) | (cases g)
  | some a=>
   obtain ⟨b,rfl,o⟩:=j.rx;cases X with
   | int k n=>
    have u:q= .int k n:=by cases m;rfl
    subst u;cases f<;>first | (exact SS.halt) | (cases g;done) | skip
    ·unfold binOp;dsimp only;unfold j9;simp only[bind_assoc];refine SS.bind SS.program ?_;rintro W _ D v ⟨rfl,rfl⟩;cases E:D.underlying t with
     | none=>exact SS.halt
     | some d=>
      simp only[pure_bind];have Y:d≠ .unsafePointer:=by rintro rfl;exact M E
      split
      ·grind
      ·simp only[h6,if_false];exact iP t (j.mono v) (.int _ _) ⟨_,rfl⟩
    ·exact B j (.int _ _)
    ·unfold binOp;dsimp only;refine SS.bind (cF o) ?_;rintro F ⟨G,l⟩ ⟨H,I⟩ s ⟨p,rfl⟩;exact lZ k p _
    ·unfold binOp;dsimp only;refine SS.bind (cF o) ?_;rintro F ⟨G,l⟩ ⟨H,I⟩ s ⟨p,rfl⟩;exact lZ k p _
   | pointer c=>
    cases c with
    | none=>cases f<;>first | (exact SS.halt) | (cases g)
    | some c=>
     obtain ⟨d,rfl,J⟩:=m.rx;cases f<;>first | (exact SS.halt) | (cases g;done) | skip
     all_goals
      unfold binOp;dsimp only;refine SS.bind (cF o) ?_;rintro F ⟨G,l⟩ ⟨H,I⟩ s ⟨p,rfl⟩;refine SS.bind (cF (J.mono s)) ?_;rintro Z ⟨a2,l2⟩ ⟨b2,l3⟩ K ⟨L,rfl⟩;first | unfold Op.addrSub | unfold Op.addrCmp
      exact SS.bind (R:=λ_ _ _=>False) (tB T (p.mono K) _) λ_ _ _ _ h=>h.elim
   | bool b=>cases f<;>first | (exact SS.halt) | (cases g)
   | float k b=>cases f<;>first | (exact SS.halt) | (cases g)
   | complex k a b=>cases f<;>first | (exact SS.halt) | (cases g)
   | string b=>cases f<;>first | (exact SS.halt) | (cases g)
   | slice a b c=>cases f<;>first | (exact SS.halt) | (cases g)
   | map b=>cases f<;>first | (exact SS.halt) | (cases g)
   | chan b=>cases f<;>first | (exact SS.halt) | (cases g)
   | func b c d=>cases f<;>first | (exact SS.halt) | (cases g)
   | nilFunc=>cases f<;>first | (exact SS.halt) | (cases g)
   | iface b c=>cases f<;>first | (exact SS.halt) | (cases g)
   | nilIface=>cases f<;>first | (exact SS.halt) | (cases g)
   | agg b=>cases f<;>first | (exact SS.halt) | (cases g)
   | tuple b=>cases f<;>first | (exact SS.halt) | (cases g)
 ·by_cases A: ∃a,X= .pointer a
  ·obtain ⟨a,rfl⟩:=A;cases a with
   | none=>
    have C:q= .pointer none:=by cases m;rfl
    subst C;cases x with
    | int k n=>
     have u:z= .int k n:=by cases j;rfl
     subst u;cases f<;>first | (exact SS.halt) | (cases g;done) | skip
     exact B m (.int _ _)
    | pointer c=>grind
    | bool b=>cases f<;>first | (exact SS.halt) | (cases g)
    | float k b=>cases f<;>first | (exact SS.halt) | (cases g)
    | complex k a b=>cases f<;>first | (exact SS.halt) | (cases g)
    | string b=>cases f<;>first | (exact SS.halt) | (cases g)
    | slice a b c=>cases f<;>first | (exact SS.halt) | (cases g)
    | map b=>cases f<;>first | (exact SS.halt) | (cases g)
    | chan b=>cases f<;>first | (exact SS.halt) | (cases g)
    | func b c d=>cases f<;>first | (exact SS.halt) | (cases g)
    | nilFunc=>cases f<;>first | (exact SS.halt) | (cases g)
    | iface b c=>cases f<;>first | (exact SS.halt) | (cases g)
    | nilIface=>cases f<;>first | (exact SS.halt) | (cases g)
    | agg b=>cases f<;>first | (exact SS.halt) | (cases g)
    | tuple b=>cases f<;>first | (exact SS.halt) | (cases g)
   | some a=>
    obtain ⟨b,rfl,o⟩:=m.rx;cases x with
    | int k n=>
     have u:z= .int k n:=by cases j;rfl
     subst u;cases f<;>first | (exact SS.halt) | (cases g;done) | skip
     ·exact B m (.int _ _)
     ·unfold binOp;dsimp only;refine SS.bind (cF o) ?_;rintro F ⟨G,l⟩ ⟨H,I⟩ s ⟨p,rfl⟩;exact lZ k p _
    | pointer c=>grind
    | bool b=>cases f<;>first | (exact SS.halt) | (cases g)
    | float k b=>cases f<;>first | (exact SS.halt) | (cases g)
    | complex k a b=>cases f<;>first | (exact SS.halt) | (cases g)
    | string b=>cases f<;>first | (exact SS.halt) | (cases g)
    | slice a b c=>cases f<;>first | (exact SS.halt) | (cases g)
    | map b=>cases f<;>first | (exact SS.halt) | (cases g)
    | chan b=>cases f<;>first | (exact SS.halt) | (cases g)
    | func b c d=>cases f<;>first | (exact SS.halt) | (cases g)
    | nilFunc=>cases f<;>first | (exact SS.halt) | (cases g)
    | iface b c=>cases f<;>first | (exact SS.halt) | (cases g)
    | nilIface=>cases f<;>first | (exact SS.halt) | (cases g)
    | agg b=>cases f<;>first | (exact SS.halt) | (cases g)
    | tuple b=>cases f<;>first | (exact SS.halt) | (cases g)
  ·by_cases p: ∃k i a b,x= .int k a/\X= .int i b
   ·obtain ⟨k,i,a,b,rfl,rfl⟩:=p;cases j;cases m;exact (wA f g t k i a b).vr
   by_cases L: ∃k i a b,x= .float k a/\X= .float i b
   ·obtain ⟨k,i,a,b,rfl,rfl⟩:=L;cases j;cases m;exact (rb f g t k i a b).vr
   by_cases O: ∃k i a b c d,x= .complex k a b/\X= .complex i c d
   ·obtain ⟨k,i,a,b,c,d,rfl,rfl⟩:=O;cases j;cases m;exact (oB f g t k i a b c d).vr
   by_cases Q: ∃a b,x= .string a/\X= .string b
   ·obtain ⟨a,b,rfl,rfl⟩:=Q;cases j;cases m;exact (qx f g t a b).vr
   exact SS.OB (AM f g t x X (λa e=>y ⟨a,e⟩) (λa e=>A ⟨a,e⟩) (λk i a b e w=>p ⟨k,i,a,b,e,w⟩) (λk i a b e w=>L ⟨k,i,a,b,e,w⟩) (λk i a b c d e w=>O ⟨k,i,a,b,c,d,e,w⟩) (λa b e w=>Q ⟨a,b,e,w⟩))
section
variable {P:Program}{α β:Type}
def du (P:j6)(s:u1 α):Prop:= ∀v b,∃h c a,s.runT P v b=(.halt h c,a)/\iJ h
def nt (P:j6)(s:u1 α):Prop:= ∀v b h c a,s.runT P v b=(.halt h c,a)->iJ h
theorem du.halt {h:Halt}(a:iJ h:=by trivial):du P (.halt h:u1 o):=λv b=>⟨h,v,b,YV,a⟩
theorem du.bind {s:u1 o}{k:o->u1 β}(d:nt P s)(h: ∀a,du P (k a)):du P (s>>=k):=by
 intro v c;show ∃h i e,(s.bind k).runT P v c=_/\_;rw[w6];match hx:s.runT P v c with
 | (.halt x y,z)=>exact ⟨x,y,z,R,d _ _ _ _ _ hx⟩
 | (.ok f g,b)=>exact h f g b
theorem du.left {s:u1 o}{k:o->u1 β}(h:du P s):du P (s>>=k):=by intro v a;obtain ⟨x,c,b,e,d⟩:=h v a;simp_all
theorem du.ss {a:aU->o->o->Prop}{s t:u1 o}(h:du P s):SS P r a s t:=by intro v w b d _ _ _;obtain ⟨x,f,c,e,g⟩:=h v b;grind
theorem nt.pure (a:o):nt P (l9 a:u1 o):=λv c h d b e=>by simp_all
theorem nt.program:nt P r6:=λv b h c a e=>by simp_all
theorem nt.mark (m:Mark):nt P (Go.mark m):=λv b h c a e=>by simp_all
theorem nt.shape (b:Nat):nt P (w7 b):=λv c h d a e=>by simp_all
theorem nt.frozen (a:n5):nt P (Go.frozen a):=λv c h d b e=>by simp_all
theorem nt.choose (q:k9):nt P (q7 q):=λv b h c a e=>by unfold q7 at e;simp only[j2]at e;grind
theorem nt.bind {s:u1 o}{k:o->u1 β}(c:nt P s)(h: ∀a,nt P (k a)):nt P (s>>=k):=by
 intro v b x i d e;change (s.bind k).runT P v b=_ at e;rw[w6]at e;match hx:s.runT P v b with
 | (.halt y z,u)=>rw[hx]at e;cases e;exact c _ _ _ _ _ hx
 | (.ok f j,g)=>rw[hx]at e;exact h f _ _ _ _ _ e
theorem kv (a:n5)(n:Nat):nt P (w9 a n):=by unfold w9;refine (nt.shape _).bind λs=> ?_;split<;>exact .pure _
theorem mO (c d n:Nat)(base:Option n5)(x:h7):nt P (E8 c d n base x):=by
 have e: ∀g:Bool,nt P (if (!g)=true then Pure.pure true else (match x with
   | .slice (some b) _ _=>do Pure.pure (!(<-w9 b (n * c)) || base.any (·.block==b.block))
   | _=>Pure.pure false:u1 Bool)):=λg=>by
  split
  ·exact .pure _
  ·split
   ·exact (kv _ _).bind λ_=> .pure _
   ·exact .pure _
 unfold E8;cases base with
 | none=>grind
 | some a=>exact (kv _ _).bind λ_=>(nt.frozen _).bind λ_=>(nt.pure _).bind λg=>e g
theorem cM (e:RuntimeError)(h: ∀a b c d,e≠ .typeAssertion a b c d)(f:e≠ .panicNil):du P (runtimePanic e:u1 o):=by unfold runtimePanic;refine du.bind nt.program λp=> ?_;cases e<;>first | exact du.halt | exact absurd rfl (h _ _ _ _) | grind
theorem SS.info{i:TypeInfo}(c:P.info? H=S i):SS P r (λ_ a b=>a=i/\b=i) (y3 H) (y3 H):=by unfold y3;refine SS.bind SS.program ?_;rintro e _ _ d ⟨rfl,rfl⟩;rw[c];exact SS.pure ⟨R,R⟩
def vJ (P:j6)(t:j4)(y:h7):Bool:=match P.underlying t with
 | some (.int _)=>match P.info? t with
  | some i=>match i.desc with
   | .named "sync.copyChecker" _=>false
   | _=>true
  | none=>false
 | some (.float _)=>true
 | some (.slice _)=>match y with
  | .slice none _ _=>true
  | _=>false
 | some (.pointer _)=>match y with
  | .pointer none=>true
  | _=>false
 | _=>false
theorem wj (hG:P.globals.size<=1)(t:j4){q:h7}(A:VR r x z)(B:VR r X q)(o:vJ P t X=true):SS P r (λ_ a b=>a=b) (D7 t x X) (D7 t z q):=by
 unfold vJ at o;unfold D7;rw[show Op.maxDepth=9999 + 1 from rfl];unfold Op.equalIn;unfold j9;simp only[bind_assoc];refine SS.bind SS.program ?_;rintro F _ G C ⟨rfl,rfl⟩;replace A:=A.mono C;replace B:=B.mono C;cases Q:G.underlying t with
 | none=>exact SS.halt
 | some d=>
  rw[Q]at o;simp only[pure_bind];cases d with
  | int T=>
   dsimp only at o;cases H:G.info? t with
   | none=>rw[H]at o;cases o
   | some i=>
    rw[H]at o;have p: ∀ {a b c d:Addr},RX F a b->RX F c d->SS G F (λ_ a b=>a=b) (do
       let f<-behindNumber a;let j<-behindNumber c;let m<-Go.program;if (f.fst.block==j.fst.block && decide (f.fst.block<m.globals.size))=true then do
         let f<-byteOf f.fst;let l<-byteOf j.fst
         Pure.pure (f==l)
        else do
         let l<-typeInfo t;match l.desc with
          | TypeDesc.named "sync.copyChecker" _=>if (f.fst==j.fst)=true then Pure.pure true else unsupported Unsupported.addressObserved
          | _=>unsupported Unsupported.addressObserved) (do
       let f<-behindNumber b;let j<-behindNumber d;let m<-Go.program;if (f.fst.block==j.fst.block && decide (f.fst.block<m.globals.size))=true then do
         let f<-byteOf f.fst;let l<-byteOf j.fst
         Pure.pure (f==l)
        else do
         let l<-typeInfo t;match l.desc with
          | TypeDesc.named "sync.copyChecker" _=>if (f.fst==j.fst)=true then Pure.pure true else unsupported Unsupported.addressObserved
          | _=>unsupported Unsupported.addressObserved):=λ{a b c d} s u=>by
     refine SS.bind (cF s) λr2 L M I D=> ?_;refine SS.bind (cF (u.mono I)) λr3 V W J E=> ?_;refine SS.bind SS.program ?_;rintro r4 _ N K ⟨rfl,rfl⟩;refine SS.Av λ⟨v,w,Y⟩=> ?_;have O:=(Y.et _ _ _ ((D.1.mono J).mono K).1 YQ);have Z:(L.1.block==V.1.block && decide (L.1.block<N.globals.size))=false:=by rw[A5];right;rw[decide_eq_false_iff_not];omega
     have e2:(M.1.block==W.1.block && decide (M.1.block<N.globals.size))=false:=by rw[A5];right;rw[decide_eq_false_iff_not];omega
     simp only[Z,e2,h6,if_false];refine SS.bind (SS.info H) ?_;rintro r5 _ _ a0 ⟨rfl,rfl⟩;split
     ·grind
     ·exact SS.halt
    cases A<;>cases B<;>first | exact SS.halt | skip
    ·dsimp only;split
     ·exact SS.pure R
     ·exact SS.halt
    ·rename_i k n a b h;rcases Decidable.em (n=0)with rfl | y
     ·exact SS.pure R
     ·split<;>first | exact SS.halt | exact absurd rfl y | (exfalso;simp_all)
    ·rename_i k n a b h s u;rcases Decidable.em (n=0)with rfl | y
     ·exact SS.pure R
     ·split<;>first | exact SS.halt | exact absurd rfl y | (exfalso;simp_all)
    ·rename_i a b h k n;rcases Decidable.em (n=0)with rfl | y
     ·exact SS.pure R
     ·split<;>first | exact SS.halt | exact absurd rfl y | (exfalso;simp_all)
    ·rename_i a b h c d g;exact p (.inl h) (.inl g)
    ·rename_i a b h c d g D E;exact p (.inl h) (.inr ⟨g,D,E⟩)
    ·rename_i a b h s u k n;rcases Decidable.em (n=0)with rfl | y
     ·exact SS.pure R
     ·split<;>first | exact SS.halt | exact absurd rfl y | (exfalso;simp_all)
    ·rename_i a b h s u c d g;exact p (.inr ⟨h,s,u⟩) (.inl g)
    ·rename_i a b h s u c d g D E;exact p (.inr ⟨h,s,u⟩) (.inr ⟨g,D,E⟩)
  | float T=>
   cases A<;>cases B<;>first | exact SS.halt | skip
   dsimp only;split
   ·exact SS.pure R
   ·exact SS.halt
  | slice e=>
   cases X<;>first | (cases o;done) | skip
   rename_i a _ _;cases a<;>first | (cases o;done) | skip
   cases B;cases A<;>first | exact SS.halt | exact SS.pure rfl
  | pointer e=>
   cases X<;>first | (cases o;done) | skip
   rename_i a;cases a<;>first | (cases o;done) | skip
   cases B;cases A<;>first | exact SS.halt | exact SS.pure rfl
  | _=>cases o
end
section
variable {P:Program}{r:aU}
theorem SS.id {R:aU->o->o->Prop}{Q:o->Prop}{s:u1 o}(h:aZ Q s)(k: ∀c a,Q a->R c a a):SS P r R s s:=h.ss.mono (λc a b _ d=>YS)
theorem qy (t:j4)(n:Nat):aZ (λ_=>True) (K1 n t .nilIface .nilIface):=by
 cases n with
 | zero=>exact .stop
 | succ n=>unfold K1;refine (da t).bind λd _=> ?_;cases d<;>exact .ret trivial
theorem yD (f:p7)(t:j4)(m:P.eqGuardType P.depth t=false)(j y:u0){q:Value}(h:VR r x z)(e:VR r X q):SS P r (λ_ _ _=>True) (eqGuard f t j y x X) (eqGuard f t j y z q):=by
 have i: ∀c:Bool,aZ (λ_=>True) (if c=true then Pure.pure ()else do
    let a<-Op.eqGuardIn Op.maxDepth t Value.nilIface Value.nilIface;if a=true then unsupported (.noEntry "binop/eql: two nil values of an interface type with methods, neither of them the literal nil")else Pure.pure ():u1 Unit):=by
  intro c;split
  ·exact .ret trivial
  ·refine (qy t _).bind λg _=> ?_;split
   ·exact .stop
   ·exact .ret trivial
 cases f<;>first | exact SS.pure trivial | skip
 all_goals
  by_cases k:x= .nilIface/\X= .nilIface
  ·obtain ⟨rfl,rfl⟩:=k;cases h;cases e;exact SS.id (i _) (λ_ _ _=>trivial)
  ·by_cases l: ∃c d,x= .agg c/\X= .agg d
   ·obtain ⟨c,d,rfl,rfl⟩:=l;cases h;cases e;refine SS.bind SS.program ?_;rintro p _ s n ⟨rfl,rfl⟩;refine SS.bind SS.program ?_;rintro u _ _ o ⟨rfl,rfl⟩;simp only[m,Bool.not_false,if_true];exact SS.pure trivial
   ·cases h<;>first | exact SS.pure trivial | skip
    ·rename_i b;cases z<;>first | exact SS.pure trivial | exact b.elim
    ·cases e<;>first | exact SS.pure trivial | exact absurd ⟨rfl,rfl⟩ k | (rename_i b;cases q<;>first | exact SS.pure trivial | exact b.elim)
    ·cases e<;>first | exact SS.pure trivial | exact absurd ⟨_,_,rfl,rfl⟩ l | (rename_i b;cases q<;>first | exact SS.pure trivial | exact b.elim)
theorem Mi(a:VR r x z):SS P r VR (I0 .not x) (I0 .not z):=by cases a<;>first | exact SS.halt | exact SS.pure (.bool _)
theorem Mh(a:VR r x z):SS P r VR (I0 .neg x) (I0 .neg z):=by
 cases a<;>first | exact SS.halt | exact SS.pure (.float _ _) | exact SS.pure (.complex _ _ _) | skip
 rename_i k n;exact (lE .sub k 0 n).vr
def yn (P:j6)(a:j4):Bool:=match P.underlying a with
 | some (.int _)=>true
 | _=>false
theorem tA(t: ∀e,P.underlying H=S (.slice e)->ZT P e){q:h7}(l:VR r x z)(u:VR r X q):SS P r VR (A4 H x X) (A4 H z q):=by
 unfold A4;refine SS.bind (qu H) ?_;rintro E d _ k ⟨rfl,v⟩;cases d with
 | slice f=>
  dsimp only;refine SS.bind (ni (l.mono k)) ?_;rintro F j _ m rfl;refine SS.bind (ni ((u.mono k).mono m)) ?_;rintro G g _ w rfl;refine SS.ik (cL f) λI i y _=> ?_;have A: ∀p,SS P p VR (do
     D8 ((IntKind.i64.wrap g).toNat * i.bytes)
     let b<-sizeOf f;if (IntKind.i64.wrap g).toNat * b=0 then do
       let h<-(Pure.pure #[]:u1 (Array h7));let a<-newRow f ((Array.range ((IntKind.i64.wrap g).toNat * b)).map λx=>h[x % h.size]!)
       Pure.pure (A7 (S a) (IntKind.i64.wrap j).toNat (IntKind.i64.wrap g).toNat)
      else do
       let c<-zeroValue f;let a<-newRow f ((Array.range ((IntKind.i64.wrap g).toNat * b)).map λx=>(c.cells)[x % c.cells.size]!)
       Pure.pure (A7 (S a) (IntKind.i64.wrap j).toNat (IntKind.i64.wrap g).toNat)) (do
     D8 ((IntKind.i64.wrap g).toNat * i.bytes)
     let b<-sizeOf f;if (IntKind.i64.wrap g).toNat * b=0 then do
       let h<-(Pure.pure #[]:u1 (Array h7));let a<-newRow f ((Array.range ((IntKind.i64.wrap g).toNat * b)).map λx=>h[x % h.size]!)
       Pure.pure (A7 (S a) (IntKind.i64.wrap j).toNat (IntKind.i64.wrap g).toNat)
      else do
       let c<-zeroValue f;let a<-newRow f ((Array.range ((IntKind.i64.wrap g).toNat * b)).map λx=>(c.cells)[x % c.cells.size]!)
       Pure.pure (A7 (S a) (IntKind.i64.wrap j).toNat (IntKind.i64.wrap g).toNat)):=λp=>by
   refine SS.bind (R:=λ_ _ _=>True) ?_ ?_
   ·unfold D8;split
    ·exact SS.mark (.inl rfl)
    ·exact SS.pure trivial
   intro J _ _ B _;refine SS.ik (dm f) λK s C _=> ?_;split
   ·simp only[pure_bind];exact SS.bind (iy f (iY (λi x l=>by simp at l) _)) λ_ _ _ _ n=>SS.pure (.slice _ _ n)
   ·refine SS.bind (eY (t f v)) ?_;rintro L M _ D ⟨rfl,o⟩;exact SS.bind (iy f (iY (kG o) _)) λ_ _ _ _ n=>SS.pure (.slice _ _ n)
  split
  ·split
   ·exact (du.left (cM _ YR YR)).ss
   ·split
    ·exact (du.left (cM _ YR YR)).ss
    ·exact (du.bind (nt.choose _) λ_=>du.left (cM _ YR YR)).ss
  grind
 | _=>exact SS.halt
inductive NR (cs:Nat->Bool)(r:aU):Next->Next->Prop
 | value {x y:h7}:VR r x y->NR cs r (.value x) (.value y)
 | skip:NR cs r .skip .skip
 | enter (f:m9) {a b:Array h7}:cs f=true->aB r a b->NR cs r (.enter f a) (.enter f b)
theorem SS.wR{s t:u1 h7}(a:SS P r VR s t):SS P r (NR h) (do l9 (.value (<-s))) (do l9 (.value (<-t))):=SS.bind a λ_ _ _ _ a=>SS.pure (.value a)
theorem SS.SQ{s t:u1 Unit}(a:SS P r (λ_ _ _=>True) s t):SS P r (NR h) (do s;l9 .skip) (do t;l9 .skip):=SS.bind a λ_ _ _ _ _=>SS.pure .skip
theorem NV(h:aB r y V)(n:y.size=1): ∃x a,y= #[x]/\V= #[a]/\VR r x a:=by obtain ⟨l⟩:=y;obtain ⟨m⟩:=V;have b:=h.1;simp only[List.size_toArray]at n b;rw[n]at b;obtain ⟨x,rfl⟩:=z8.1 n;obtain ⟨a,rfl⟩:=z8.1 b.symm;exact ⟨x,a,R,R,h.2 0 x a R R⟩
theorem Qw(h:aB r y V)(n:y.size=2): ∃x a p q,y= #[x,p]/\V= #[a,q]/\VR r x a/\VR r p q:=by
 obtain ⟨l⟩:=y;obtain ⟨m⟩:=V;have c:=h.1;simp only[List.size_toArray]at n c;rw[n]at c;have b: ∀ {l:List Value},l.length=2-> ∃x p,l= [x,p]:=λ{l} n=>by
  match l,n with
  | [x,p],_=>simp
 obtain ⟨x,p,rfl⟩:=b n;obtain ⟨a,q,rfl⟩:=b c.symm;exact ⟨x,a,p,q,R,R,h.2 0 x a R R,h.2 1 p q R R⟩
theorem Jf (a:Array j4)(t:j4)(h:VR r x z):SS P r VR (C5 a t #[x]) (C5 a t #[z]):=by cases h<;>first | exact SS.halt | exact SS.pure (.float _ _)
theorem Jc (a:Array j4)(t:j4)(h:VR r x z):SS P r VR (C6 a t #[x]) (C6 a t #[z]):=by cases h<;>first | exact SS.halt | exact SS.pure (.float _ _)
theorem yB (c:Array j4)(t:j4){q:h7}(h:VR r x z)(e:VR r X q):SS P r VR (y5 c t #[x,X]) (y5 c t #[z,q]):=by
 cases h<;>first | exact SS.halt | skip
 ·cases e<;>first | exact SS.halt | skip
  rename_i k a d b;show SS P r VR (if k=d then _ else _) (if k=d then _ else _);split
  ·exact SS.pure (.complex _ _ _)
  ·exact SS.halt
theorem Me (a:Array j4)(t:j4)(h:VR r x z)(b: ∃s e,a[0]? =S s/\P.underlying s=S (.slice e)):SS P r VR (z9 a t #[x]) (z9 a t #[z]):=by obtain ⟨s,e,c,d⟩:=b;unfold z9;simp only[c,q8,p8];unfold j9;simp only[bind_assoc];refine SS.bind SS.program ?_;rintro g _ i f ⟨rfl,rfl⟩;rw[d];simp only[pure_bind];cases h<;>first | exact SS.halt | exact SS.pure (.int _ _)
theorem Jd {q:h7}(h:VR r x z)(a:VR r X q):SS P r VR (A0 x X) (A0 z q):=by
 cases h<;>first | exact SS.halt | skip
 all_goals cases a<;>first | exact SS.halt | exact SS.pure (.int _ _) | skip
 ·refine aZ.vr ?_;unfold A0;dsimp only;split<;>first | exact .ret (dk _ _) | exact (aZ.ch (Q:=λ_=>True) _ (λ_=>trivial)).bind λn _=> .ret (dk _ _)
 ·unfold A0;exact ((fj _ _ _).bind λv _=>(kM v).bind λb _=> .ret (jO _)).vr
theorem Je {q:h7}(h:VR r x z)(a:VR r X q):SS P r VR (A1 x X) (A1 z q):=by
 cases h<;>first | exact SS.halt | skip
 all_goals cases a<;>first | exact SS.halt | exact SS.pure (.int _ _) | skip
 ·refine aZ.vr ?_;unfold A1;dsimp only;split<;>first | exact .ret (dk _ _) | exact (aZ.ch (Q:=λ_=>True) _ (λ_=>trivial)).bind λn _=> .ret (dk _ _)
 ·unfold A1;exact ((fj _ _ _).bind λv _=>(kM v).bind λb _=> .ret (jO _)).vr
theorem Mf (a:Array j4)(t:j4){q:h7}(h:VR r x z)(b:VR r X q):SS P r VR (A2 a t #[x,X]) (A2 a t #[z,q]):=by unfold A2;simp only[E9,G0,bind_pure];exact Jd h b
theorem Mg (a:Array j4)(t:j4){q:h7}(h:VR r x z)(b:VR r X q):SS P r VR (A3 a t #[x,X]) (A3 a t #[z,q]):=by unfold A3;simp only[E9,G0,bind_pure];exact Je h b
end
section
variable {P:Program}{r:aU}
theorem er (c n:Nat)(h:VR r x z):SS P r aB (C8 c n x) (C8 c n z):=by
 cases h with
 | slice a b h=>exact nj (.inl h) _
 | eQ a b=>exact SS.pure .nil
 | string s=>
  refine SS.pure (aB.same λi x d=> ?_);rw[x0]at d;cases e:(s.extract 0 n).data[i]? with
  | none=>grind
  | some j=>rw[e]at d;cases d;exact fZ _ _
 | _=>exact SS.halt
theorem Fz(h:VR r x z):SS P r (λ_ a b=>a=b) (J2 x) (J2 z):=by cases h<;>first | exact SS.halt | exact SS.pure rfl
theorem jW(h:Plain z)(n:Nat):aB r (D9 z.cells n) (D9 z.cells n):=iY (kG h) _
theorem qp (n:Nat):SS P r (λ_ _ _=>True) (D8 n) (D8 n):=by
 unfold D8;split
 ·exact SS.mark (.inl R)
 ·exact SS.pure trivial
theorem Ce (J:Array j4)(Q: ∀u e,J[0]? =some u->P.underlying u=some (.slice e)->ZT P e)(t:j4){q:h7}(h:VR r x z)(m:VR r X q)(Z: ∃u e,J[1]? =some u/\P.underlying u=some (.slice e)):
  SS P r VR (u2 J t #[x,X]) (u2 J t #[z,q]):=by
 obtain ⟨u,e,h1,h2⟩:=Z;unfold u2;cases T:J[0]? with
 | none=>exact SS.halt
 | some s=>
  simp only[q8,p8,List.getElem?_cons_succ];refine SS.bind (qu s) ?_;rintro r1 d _ K ⟨rfl,V⟩;cases d with
  | slice f=>
   dsimp only;replace h:=h.mono K;replace m:=m.mono K;cases h<;>first | exact SS.halt | skip
   all_goals
    dsimp only;refine SS.ik (dm f) λr2 y A _=> ?_;rw[h1];unfold j9;simp only[bind_assoc];refine SS.bind SS.program ?_;rintro r3 _ p0 B ⟨rfl,rfl⟩;rw[h2];simp only[pure_bind,Bool.false_eq_true,if_false,Bool.not_false,if_true,false_or];replace m:=(m.mono A).mono B;refine SS.bind (Fz m) ?_;rintro r4 n _ C rfl;replace m:=m.mono C;split
   ·refine SS.bind (er y n m) λL c d l k=> ?_;exact SS.pure (.eQ _ _)
   ·refine SS.ik (cL f) λL i l _=> ?_;split
    ·exact (du.left (cM _ YR YR)).ss
    ·refine SS.ik (cL f) λW i2 o _=> ?_;split
     ·refine (du.left (du.bind (mO _ _ _ _ _) λg=> ?_)).ss;split
      ·exact du.bind (nt.mark _) λ_=>du.halt
      ·exact du.halt
     ·refine SS.bind (SS.choose _) ?_;rintro r7 nc _ D rfl;refine SS.ik (cL f) λr8 i3 E _=> ?_;refine SS.bind (qp _) λr9 _ _ F _=> ?_;refine SS.bind (er _ _ (.eQ _ _)) λM c d p k=> ?_;have he:=((((l.trans o).trans D).trans E).trans F).trans p;refine SS.bind (er _ _ (m.mono he)) λN c' d' v w=> ?_;refine SS.bind (eY (Q s f T V)) ?_;rintro O a0 _ j ⟨rfl,G⟩;exact SS.bind (iy f (((aB.mono (v.trans j) k).append (aB.mono j w)).append (jW G _))) λ_ _ _ _ I=>SS.pure (.slice _ _ I)
   ·rename_i a b sl sc H _ _;refine SS.bind (er y n m) λL c d l k=> ?_;have I:=(((H.mono A).mono B).mono C).mono l;refine SS.bind (jm _ _ _ (.inl (I.add _)) (by simpa using k.1) (aB.list k)) λW _ _ o _=> ?_;exact SS.pure (.slice _ _ (I.mono o))
   ·rename_i a b sl sc H _ _;refine SS.ik (cL f) λL i l _=> ?_;split
    ·exact (du.left (cM _ YR YR)).ss
    ·refine SS.ik (cL f) λW i2 o _=> ?_;split
     ·refine (du.left (du.bind (mO _ _ _ _ _) λg=> ?_)).ss;split
      ·exact du.bind (nt.mark _) λ_=>du.halt
      ·exact du.halt
     ·refine SS.bind (SS.choose _) ?_;rintro r7 nc _ D rfl;refine SS.ik (cL f) λr8 i3 E _=> ?_;refine SS.bind (qp _) λr9 _ _ F _=> ?_;have Y:=((((l.trans o).trans D).trans E).trans F);refine SS.bind (er _ _ (.slice _ _ ((((H.mono A).mono B).mono C).mono Y))) λM c d p k=> ?_;refine SS.bind (er _ _ (m.mono (Y.trans p))) λN c' d' v w=> ?_;refine SS.bind (eY (Q s f T V)) ?_;rintro O a0 _ j ⟨rfl,G⟩;exact SS.bind (iy f (((aB.mono (v.trans j) k).append (aB.mono j w)).append (jW G _))) λ_ _ _ _ I=>SS.pure (.slice _ _ I)
  | _=>exact SS.halt
def te (P:j6)(b a:j4):Bool:=yn P b && (yn P a || (match P.underlying a with | some (.float _)=>true | _=>false))
theorem yC (a c:j4)(g:te P a c=true)(h:VR r x z):SS P r VR (convert a c x) (convert a c z):=by
 unfold te yn at g;rw[m1]at g;obtain ⟨j,l⟩:=g;unfold convert j9;simp only[bind_assoc];refine SS.bind SS.program ?_;rintro p _ i e ⟨rfl,rfl⟩;cases m:i.underlying a with
 | none=>grind
 | some d=>
  rw[m]at j;cases d<;>first | (cases j;done) | skip
  simp only[pure_bind];refine SS.bind SS.program ?_;rintro q _ i f ⟨rfl,rfl⟩;cases o:i.underlying c with
  | none=>grind
  | some d=>
   rw[o]at l;cases d<;>first | (cases l;done) | skip
   case float s=>
    simp only[pure_bind];replace h:=(h.mono e).mono f;cases h<;>first | exact SS.halt | exact SS.pure (.float _ _) | skip
    refine aZ.vr ?_;show aZ Plain (x7 _ _ _);unfold x7;split
    ·exact .ret (dk _ _)
    ·split
     ·exact (aZ.ch (Q:=λ_=>True) _ (λ_=>trivial)).bind λn _=> .ret (dk _ _)
     ·exact .ret (dk _ _)
     ·dsimp only;split
      ·exact (aZ.ch (Q:=λ_=>True) _ (λ_=>trivial)).bind λn _=> .ret (dk _ _)
      ·exact .ret (dk _ _)
   simp only[pure_bind];replace h:=(h.mono e).mono f;cases h<;>first | exact SS.halt | exact SS.pure (.int _ _) | skip
   rename_i k b;refine aZ.vr ?_;show aZ Plain (G1 _ _ _);unfold G1;dsimp only;repeat' split
   all_goals first | exact .ret (fZ _ _) | exact (aZ.ch (Q:=λ_=>True) _ (λ_=>trivial)).bind λn _=> .ret (fZ _ _)
def LI (P:j6)(f:m9)(n:Nat):Prop:= ∃a,P.funcs[f]? =S a/\a.name≠ "runtime.NumGoroutine" /\
 (a.body.isSome=true\/(n=1/\a.body=none/\G2 a=none/\(A8 a=S m4\/A8 a=S l5)))
theorem Jb(h:VR r x z):SS P r VR (m4 #[x]) (m4 #[z]):=by
 cases h<;>first | exact SS.halt | skip
 rename_i k b;cases k
 ·exact SS.halt
 ·exact SS.pure (.int _ _)
theorem wo(h:VR r x z):SS P r VR (l5 #[x]) (l5 #[z]):=by
 cases h<;>first | exact SS.halt | skip
 rename_i k b;cases k<;>first | exact SS.halt | exact SS.pure (.float _ _)
def mJ (P:j6)(cs:Nat->Bool)(f:m9):Bool:=cs f && (P.funcs[f]?).any (·.body.isSome)
theorem oi(l:h B=true)(m:LI P B V.size)(a:aB r V y):SS P r (NR (mJ P h)) (K9 B V) (K9 B y):=by
 obtain ⟨e,j,n,b⟩:=m;unfold K9;refine SS.bind SS.program ?_;rintro t _ u f ⟨rfl,rfl⟩;replace a:=aB.mono f a;rw[j];dsimp only;have g:(e.name== "runtime.NumGoroutine")=false:=by simpa using n
 rw[g];simp only[h6,if_false];rcases b with b | ⟨c,b,o,d⟩
 ·have:e.body.isNone=false:=by cases s:e.body<;>simp_all
  rw[this];simp only[h6,if_false];exact SS.pure (.enter B (by simp[mJ,l,j,b]) a)
 ·rw[b];simp only[Option.isNone_none,if_true,o];refine SS.bind (SS.mark (.inr ⟨B,R⟩)) λv _ _ i _=> ?_;replace a:=aB.mono i a;obtain ⟨p,q,rfl,rfl,k⟩:=NV a c;rcases d with d | d
  ·rw[d];exact SS.bind (Jb k) λ_ _ _ _ a=>SS.pure (.value a)
  ·rw[d];exact SS.bind (wo k) λ_ _ _ _ a=>SS.pure (.value a)
def qg:h7->Bool
 | .bool _ | .int .. | .float .. | .complex .. | .string _ | .pointer none | .slice none _ _ | .chan none | .nilFunc | .nilIface=>true
 | _=>false
theorem jN(h:qg x=true):Plain x:=by
 cases x with
 | bool b=>exact .bool b
 | int k n=>exact .int k n
 | float k b=>exact .float k b
 | complex k a b=>exact .complex k a b
 | string t=>exact .string t
 | pointer a=>cases a<;>first | exact .vV | cases h
 | slice a n c=>cases a<;>first | exact .eQ _ _ | cases h
 | chan a=>cases a<;>first | exact .mG | cases h
 | nilFunc=>exact .nilFunc
 | nilIface=>exact .nilIface
 | _=>cases h
def EL:h7->Bool
 | .agg c=>c.all qg
 | x=>qg x
theorem tn(h:EL x=true):Plain x:=by
 cases x with
 | agg c=>refine .agg R λi x y b d=> ?_;rw[b]at d;cases d;obtain ⟨a,rfl⟩:=m5.1 b;exact jN (x8.1 h i a)
 | _=>exact jN h
def PK (P:j6)(t:j4):Bool:=match P.info? t with
 | some i=>match i.zero with
  | some z=>EL z
  | none=>true
 | none=>true
theorem zd(h:PK P H=true):ZT P H:=by intro i z a b;unfold PK at h;rw[a]at h;dsimp only at h;rw[b]at h;exact tn h
def Gq (P:j6)(t:j4):Bool:=match P.underlying t with
 | some (.slice e)=>PK P e
 | _=>true
theorem tW(h:Gq P H=true): ∀e,P.underlying H=S (.slice e)->ZT P e:=by intro e a;unfold Gq at h;rw[a]at h;exact zd h
def cX:u0->Bool
 | .tmp _=>true
 | .func f=>EC f
 | .const v=>qg v
 | .global _=>false
def kC (P:j6)(a:Nat->Bool):Call->Bool
 | {callee:= .value (.tmp _),args,..}=>args.all cX
 | {callee:= .value (.func f),args,..}=>a f && args.all cX && (args.size==1 || ((P.funcs[f]?).any (·.body.isSome)))
 | {callee:= .builtin .append,args,argTypes}=>args.all cX && args.size==2 && (match argTypes[0]? with | some u=>Gq P u | none=>true) && (match argTypes[1]? with | some u=>(match P.underlying u with | some (.slice _)=>true | _=>false) | none=>false)
 | {callee:= .builtin .len,args,argTypes}=>args.all cX && args.size==1 && (match argTypes[0]? with | some u=>(match P.underlying u with | some (.slice _)=>true | _=>false) | none=>false)
 | {callee:= .builtin .real,args,..} | {callee:= .builtin .imag,args,..}=>args.all cX && args.size==1
 | {callee:= .builtin .complex,args,..} | {callee:= .builtin .max,args,..} | {callee:= .builtin .min,args,..}=>args.all cX && args.size==2
 | _=>false
def jM (P:j6)(h:Nat->Bool):Op->Bool
 | .move x | .assign x | .box _ x | .load _ x | .nilCheck x | .extract x _=>cX x
 | .pick c a b=>cX c && cX a && cX b
 | .alloc t=>PK P t
 | .build t e=>PK P t && e.all λp=>cX p.2
 | .buildSlice t _ e=>Gq P t && e.all λp=>cX p.2
 | .makeSlice t a x=>Gq P t && (cX a && cX x)
 | .store _ a x | .indexAddr _ a x=>cX a && cX x
 | .binOp g t x y _=>cX x && cX y && !(P.eqGuardType P.depth t) && (match P.underlying t with | some .unsafePointer=>false | _=>true) && (iU g ||
   ((match g with | .eql | .neq=>true | _=>false) && (match P.underlying t with | some (.int _) | some (.float _)=>vJ P t .nilIface | _=>(match y with | .const v=>vJ P t v | _=>false))))
 | .unOp .not _ x | .unOp .neg _ x=>cX x
 | .makeFunc (.func f) i j=>EC f && (i.isEmpty && j.all cX)
 | .slice t x k l m=>cX x && (k.all cX && l.all cX && m.all cX) && (match P.underlying t with | some (.slice _)=>true | _=>false)
 | .convert s d x=>cX x && te P s d
 | .fieldAddr s x f=>cX x && sR P s f
 | .call c=>kC P h c
 | _=>false
structure Qo (P:j6)(cs:Nat->Bool):Prop where
 et:P.globals.size<=1
 call: ∀f,cs f=true->(∃fn,P.funcs[f]? =S fn/\fn.name≠ "runtime.NumGoroutine" /\
  (fn.body.isSome=true\/(fn.body=none/\G2 fn=none/\(A8 fn=S m4\/A8 fn=S l5))))
 RR: ∀f,EC f=true->cs f=true/\(P.funcs[f]?).any (·.body.isSome)=true
structure ER (r:aU)(f g:u0->h7):Prop where
 vr: ∀x,cX x=true->VR r (f x) (g x)
 fn: ∀k,f (.func k)= .func (.func k) #[] #[]/\g (.func k)= .func (.func k) #[] #[]
 const: ∀v,f (.const v)=v
theorem ER.args {g:u0->h7}(h:ER r J g){l:Array u0}(e:l.all cX=true):aB r (l.map J) (l.map g):=by
 refine ⟨YR,λi x y a b=> ?_⟩;rw[x0]at a b;cases d:l[i]? with
 | none=>grind
 | some o=>rw[d]at a b;cases a;cases b;obtain ⟨c,rfl⟩:=m5.1 d;exact h.vr _ (x8.1 e i c)
theorem ER.parts {g:u0->h7}(h:ER r J g){l:Array (Nat×u0)}(e:(l.all λp=>cX p.2)=true):PR r (l.map λ(i,x)=>(i,J x)) (l.map λ(i,x)=>(i,g x)):=by
 refine ⟨YR,λi x y a b=> ?_⟩;rw[x0]at a b;cases d:l[i]? with
 | none=>grind
 | some o=>rw[d]at a b;cases a;cases b;obtain ⟨c,rfl⟩:=m5.1 d;exact ⟨R,h.vr _ (x8.1 e i c)⟩
theorem zn (t:j4)(x y:h7)(f: ∀k e a b,x= .int k a->y≠ .int e b)(g: ∀k e a b,x= .float k a->y≠ .float e b)
  (h: ∀k e a b c d,x= .complex k a b->y≠ .complex e c d)(i: ∀a b,x= .string a->y≠ .string b):
  (w8 .eql t x y=do l9 (.bool (<-D7 t x y)))/\(w8 .neq t x y=do l9 (.bool (!(<-D7 t x y)))):=by
 cases x<;>cases y<;>first | exact absurd rfl (f _ _ _ _ rfl) | exact absurd rfl (g _ _ _ _ rfl) | exact absurd rfl (h _ _ _ _ _ _ rfl) | exact absurd rfl (i _ _ rfl) | exact ⟨rfl,rfl⟩
theorem Pk (u:P.globals.size<=1)(m:p7)(l:m= .eql\/m= .neq)(t:j4){q:h7}(i:VR r x z)(j:VR r X q)(v:vJ P t X=true):
  SS P r VR (w8 m t x X) (w8 m t z q):=by
 by_cases n: ∃k f a b,x= .int k a/\X= .int f b
 ·obtain ⟨k,f,a,b,rfl,rfl⟩:=n;cases i;cases j;refine aZ.vr ?_;rcases l with rfl | rfl
  all_goals
   unfold w8;dsimp only;split
   ·exact .stop
   ·exact oj _ _ _
 by_cases o: ∃k f a b,x= .float k a/\X= .float f b
 ·obtain ⟨k,f,a,b,rfl,rfl⟩:=o;cases i;cases j;refine aZ.vr ?_;rcases l with rfl | rfl
  all_goals
   unfold w8;dsimp only;split
   ·exact .stop
   ·exact jo _ _ _ _
 by_cases p: ∃k f a b c d,x= .complex k a b/\X= .complex f c d
 ·obtain ⟨k,f,a,b,c,d,rfl,rfl⟩:=p;cases i;cases j;refine aZ.vr ?_;rcases l with rfl | rfl
  all_goals
   unfold w8;dsimp only;split
   ·exact .stop
   ·exact kN _ _ _ _ _ _ ⟨YR,YR⟩
 by_cases s: ∃a b,x= .string a/\X= .string b
 ·obtain ⟨a,b,rfl,rfl⟩:=s;cases i;cases j;refine aZ.vr ?_;rcases l with rfl | rfl
  ·exact fj .eql a b
  ·exact fj .neq a b
 have w:=zn t x X (λk f a b e g=>n ⟨k,f,a,b,e,g⟩) (λk f a b e g=>o ⟨k,f,a,b,e,g⟩) (λk f a b c d e g=>p ⟨k,f,a,b,c,d,e,g⟩) (λa b e g=>s ⟨a,b,e,g⟩);have y:=zn t z q
  (λk f a b e g=>n (by subst e;subst g;cases i<;>first | (rename_i h;exact False.elim h) | (cases j<;>first | (rename_i h;exact False.elim h) | simp)))
  (λk f a b e g=>o (by subst e;subst g;cases i<;>first | (rename_i h;exact False.elim h) | (cases j<;>first | (rename_i h;exact False.elim h) | simp)))
  (λk f a b c d e g=>p (by subst e;subst g;cases i<;>first | (rename_i h;exact False.elim h) | (cases j<;>first | (rename_i h;exact False.elim h) | simp)))
  (λa b e g=>s (by subst e;subst g;cases i<;>first | (rename_i h;exact False.elim h) | (cases j<;>first | (rename_i h;exact False.elim h) | simp)))
 rcases l with rfl | rfl
 ·rw[w.1,y.1];exact SS.bind (wj u t i j v) (by rintro A a _ _ rfl;exact SS.pure (.bool _))
 ·rw[w.2,y.2];exact SS.bind (wj u t i j v) (by rintro A a _ _ rfl;exact SS.pure (.bool _))
theorem vK(y:h7)(h:vJ P H x=true)(a:(∃k,P.underlying H=S (.int k))\/ ∃k,P.underlying H=S (.float k)):vJ P H y=true:=by unfold vJ at h ⊢;grind
def Gw (r:aU):Option h7->Option h7->Prop
 | none,none=>True
 | some x,S y=>VR r x y
 | _,_=>False
theorem Gw.mono {s:aU}{a b:Option h7}(h:Gw r a b)(k:Ext r s):Gw s a b:=by cases a<;>cases b<;>first | trivial | exact VR.mono k h
theorem ER.opt {g:u0->h7}(h:ER r J g){o:Option u0}(a:o.all cX=true):Gw r (o.map J) (o.map g):=by
 cases o with
 | none=>trivial
 | some x=>exact h.vr x (by assumption)
theorem qZ(h:VR r x z)(n:Nat)(c:BoundsCode):SS P r (λ_ a b=>a=b) (n8 x n c) (n8 z n c):=by
 unfold n8;refine SS.bind (ma h) ?_;rintro d ⟨k,i⟩ _ e rfl;dsimp only;split
 ·exact SS.pure R
 ·exact (gf (Q:=λ_=>True) _ _ _ _).ss.mono λ_ _ _ _ h=>h.1
theorem kK (s:Bool)(j k:Nat){l o h p m q:Option Value}(g:Gw r l o)(d:Gw r h p)(f:Gw r m q):SS P r (λ_ a b=>a=b) (x9 s j k l h m) (x9 s j k o p q):=by
 have B: ∀ {t:aU}{x y:Value}(_:Ext r t)(_:VR r x y)(n:Nat)(c:BoundsCode),SS P t (λ_ a b=>a=b) (n8 x n c) (n8 y n c):=λu v n c=>qZ (v.mono u) n c;unfold x9;match l,o,g,h,p,d,m,q,f with
 | none,none,_,none,none,_,none,none,_=>exact SS.pure R
 | some _,some _,g,none,none,_,none,none,_=>
   dsimp only;try simp only[pure_bind]
   exact SS.bind (B (.refl r) g _ _) λ_ _ _ _ e=>by subst e;exact SS.pure R
 | none,none,_,some _,some _,d,none,none,_=>
   dsimp only;try simp only[pure_bind]
   exact SS.bind (B (.refl r) d _ _) λ_ _ _ _ e=>by subst e;exact SS.pure R
 | some _,some _,g,some _,some _,d,none,none,_=>
   dsimp only;try simp only[pure_bind]
   exact SS.bind (B (.refl r) d _ _) λ_ _ _ i e=>by subst e;exact SS.bind (B i g _ _) λ_ _ _ _ e=>by subst e;exact SS.pure R
 | none,none,_,none,none,_,some _,some _,f=>
   dsimp only;try simp only[pure_bind]
   exact SS.bind (B (.refl r) f _ _) λ_ _ _ _ e=>by subst e;exact SS.halt
 | some _,some _,_,none,none,_,some _,some _,f=>
   dsimp only;try simp only[pure_bind]
   exact SS.bind (B (.refl r) f _ _) λ_ _ _ _ e=>by subst e;exact SS.halt
 | none,none,_,some _,some _,d,some _,some _,f=>
   dsimp only;try simp only[pure_bind]
   exact SS.bind (B (.refl r) f _ _) λ_ _ _ i e=>by subst e;exact SS.bind (B i d _ _) λ_ _ _ _ e=>by subst e;exact SS.pure R
 | some _,some _,g,some _,some _,d,some _,some _,f=>
   dsimp only;try simp only[pure_bind]
   exact SS.bind (B (.refl r) f _ _) λ_ _ _ i e=>by subst e;exact SS.bind (B i d _ _) λ_ _ _ w e=>by subst e;exact SS.bind (B (i.trans w) g _ _) λ_ _ _ _ e=>by subst e;exact SS.pure R
theorem yH (t:j4){l y h A m B:Option h7}(H:VR r x z)(C:Gw r l y)(D:Gw r h A)(E:Gw r m B)(M:(match P.underlying t with | some (.slice _)=>true | _=>false)=true):
  SS P r VR (Instr.sliceAt t x l h m) (Instr.sliceAt t z y A B):=by
 obtain ⟨e,F⟩: ∃e,P.underlying t=some (.slice e):=by grind
 have o:SS P r (λ_ a b=>a= .slice e/\b= .slice e) (j9 t) (j9 t):=by unfold j9;refine SS.bind SS.program ?_;rintro G _ _ f ⟨rfl,rfl⟩;rw[F];exact SS.pure ⟨R,R⟩
 unfold Instr.sliceAt;refine SS.bind o ?_;rintro G _ _ s ⟨rfl,rfl⟩;dsimp only;unfold Instr.slice;have i:SS P G (λ_ a b=>a= .slice e/\b= .slice e) (j9 t) (j9 t):=by unfold j9;refine SS.bind SS.program ?_;rintro I _ _ f ⟨rfl,rfl⟩;rw[F];exact SS.pure ⟨R,R⟩
 refine SS.bind i ?_;rintro I _ _ u ⟨rfl,rfl⟩;have f:=s.trans u;have v:=H.mono f;cases v with
 | eQ n c=>dsimp only;refine SS.bind (kK true n c (C.mono f) (D.mono f) (E.mono f)) ?_;rintro J ⟨a,b,d⟩ _ j rfl;refine SS.ik (dm e) λK L k _=> ?_;dsimp only;simp only[Option.map_none,ite_self];exact SS.pure (.eQ _ _)
 | @slice p q n c w=>
  dsimp only;refine SS.bind (kK true n c (C.mono f) (D.mono f) (E.mono f)) ?_;rintro J ⟨a,b,d⟩ _ j rfl;refine SS.ik (dm e) λK L k _=> ?_;dsimp only;have g:=(w.mono j).mono k;split
  ·exact SS.pure (.slice _ _ g)
  ·exact SS.pure (.slice _ _ (g.add _))
 | _=>exact SS.halt
theorem Ch(C:Qo P h){g:u0->Value}(z:ER r J g)(c:Call)(t:j4)(f:kC P h c=true):
  SS P r (NR (mJ P h)) (do let d<-resolve J c t;invoke d.target d.args) (do let d<-resolve g c t;invoke d.target d.args):=by
 obtain ⟨m,args,i⟩:=c;cases m with
 | value x=>
  cases x with
  | tmp D=>
   simp only[kC]at f;have v:=z.args f;have E:=z.vr (.tmp D) rfl;unfold resolve;dsimp only;revert E v;generalize J (.tmp D)=fc;generalize g (.tmp D)=gc;generalize args.map J=af;generalize args.map g=ag;intro v E;cases E with
   | @func A f1 f2 c1 c2 F G W X Y=>obtain ⟨B,H⟩:=C.RR A F;unfold F0;simp only[pure_bind];unfold invoke;dsimp only;refine oi B ?_ ((aB.append ⟨G,W⟩ v).append ⟨X,Y⟩);obtain ⟨k,Q,Z,_⟩:=C.call A B;rw[Q]at H;exact ⟨k,Q,Z,.inl (by assumption)⟩
   | nilFunc=>exact du.ss (s:=runtimePanic .nilDeref) (cM .nilDeref YR YR)
   | qH _ _=>exact du.ss (s:=runtimePanic .nilDeref) (cM .nilDeref YR YR)
   | _=>exact SS.halt
  | func A=>simp only[kC,m1,G3,beq_iff_eq]at f;obtain ⟨⟨l,w⟩,T⟩:=f;unfold resolve F0;simp only[z.fn,pure_bind];unfold invoke;simp only[Array.empty_append,Array.append_empty];refine oi l ?_ (z.args w);obtain ⟨k,B,H,k3⟩:=C.call A l;refine ⟨k,B,H,?_⟩;grind
  | _=>cases f
 | builtin b=>
  unfold resolve;simp only[pure_bind];have n: ∀ {R:Value->Value->Sem Value},args.all cX=true->args.size=2->(∀x y p q,VR r x y->VR r p q->SS P r VR (R x p) (R y q))-> ∀ {a b:Sem Value},(∀x p,args.map J= #[x,p]->a=R x p)->(∀x p,args.map g= #[x,p]->b=R x p)->
    SS P r (NR (mJ P h)) (do l9 (.value (<-a))) (do l9 (.value (<-b))):=λ{R} l w I {a b} v K=>by
   obtain ⟨x,y,p,q,L,M,j,o⟩:=Qw (z.args l) YS;rw[v x p L,K y q M];exact SS.wR (I x y p q j o)
  have one: ∀ {R:Value->Sem Value},args.all cX=true->args.size=1->(∀x y,VR r x y->SS P r VR (R x) (R y))-> ∀ {a b:Sem Value},(∀x,args.map J= #[x]->a=R x)->(∀x,args.map g= #[x]->b=R x)->
    SS P r (NR (mJ P h)) (do l9 (.value (<-a))) (do l9 (.value (<-b))):=λ{R} l w I {a b} v K=>by
   obtain ⟨x,y,L,M,j⟩:=NV (z.args l) YS;rw[v x L,K y M];exact SS.wR (I x y j)
  cases b<;>first | (cases f;done) | skip
  all_goals
   simp only[kC,m1,beq_iff_eq]at f;unfold invoke builtin;dsimp only
  ·obtain ⟨⟨⟨l,w⟩,V⟩,T⟩:=f;have N: ∀u e,i[0]? =some u->P.underlying u=some (.slice e)->ZT P e:=λu e F=>by rw[F]at V;exact tW V e
   have O: ∃u e,i[1]? =some u/\P.underlying u=some (.slice e):=by
    cases G:i[1]? with
    | none=>grind
    | some u=>grind
   exact n (R:=λx p=>u2 i t #[x,p]) l w (λx y p q j o=>Ce i N t j o O) (λx p e=>by rw[e]) (λx p e=>by rw[e])
  ·exact n (R:=λx p=>y5 i t #[x,p]) f.1 f.2 (λx y p q j o=>yB i t j o) (λx p e=>by rw[e]) (λx p e=>by rw[e])
  ·exact one (R:=λx=>C6 i t #[x]) f.1 f.2 (λx y j=>Jc i t j) (λx e=>by rw[e]) (λx e=>by rw[e])
  ·obtain ⟨⟨l,w⟩,T⟩:=f;have O: ∃u e,i[0]? =some u/\P.underlying u=some (.slice e):=by
    cases G:i[0]? with
    | none=>grind
    | some u=>grind
   exact one (R:=λx=>z9 i t #[x]) l w (λx y j=>Me i t j O) (λx e=>by rw[e]) (λx e=>by rw[e])
  ·exact n (R:=λx p=>A2 i t #[x,p]) f.1 f.2 (λx y p q j o=>Mf i t j o) (λx p e=>by rw[e]) (λx p e=>by rw[e])
  ·exact n (R:=λx p=>A3 i t #[x,p]) f.1 f.2 (λx y p q j o=>Mg i t j o) (λx p e=>by rw[e]) (λx p e=>by rw[e])
  ·exact one (R:=λx=>C5 i t #[x]) f.1 f.2 (λx y j=>Jf i t j) (λx e=>by rw[e]) (λx e=>by rw[e])
 | invoke a b=>cases f
end
theorem jR {cs:Nat->Bool}(B:Qo P cs){g:u0->h7}(h:ER r J g)(o:Oper)(f:jM P cs o.op=true):SS P r (NR (mJ P cs)) (u3 J o) (u3 g o):=by
 obtain ⟨M,m,q,N,C,guard⟩:=o;cases m<;>first | (cases f;done) | skip
 all_goals simp only[jM,m1]at f
 all_goals unfold u3
 all_goals dsimp only
 case move x=>exact SS.pure (.value (h.vr x f))
 case assign x=>exact SS.pure (.value (h.vr x f))
 case pick c a b=>
  have p:=h.vr c f.1.1;revert p;generalize J c=O;generalize g c=Q;intro p;cases p<;>first | exact SS.halt | skip
  unfold asBool;simp only[pure_bind];split
  ·exact SS.pure (.value (h.vr a f.1.2))
  ·exact SS.pure (.value (h.vr b f.2))
 case alloc e=>exact SS.wR (Fw (zd f))
 case box e x=>exact SS.wR (Md e (h.vr x f))
 case build t T=>exact SS.wR (Fy (zd f.1) (h.parts f.2))
 case buildSlice t n T=>exact SS.wR (qY (tW f.1) n (h.parts f.2))
 case load t x=>exact SS.wR (Ci t (h.vr x f))
 case store t x y=>exact SS.SQ (yI t (h.vr x f.1) (h.vr y f.2))
 case nilCheck x=>
  have p:=h.vr x f;revert p;generalize J x=O;generalize g x=Q;intro p;cases p with
  | vV=>exact (cM _ YR YR).ss
  | nilFunc=>exact (cM _ YR YR).ss
  | nilIface=>exact (cM _ YR YR).ss
  | bool b=>exact SS.pure (.value (.bool b))
  | int k n=>exact SS.pure (.value (.int k n))
  | float k b=>exact SS.pure (.value (.float k b))
  | complex k a b=>exact SS.pure (.value (.complex k a b))
  | string t=>exact SS.pure (.value (.string t))
  | ptr h=>exact SS.pure (.value (.ptr h))
  | num h D E=>exact SS.pure (.value (.num h D E))
  | eQ n c=>exact SS.pure (.value (.eQ n c))
  | slice n c h=>exact SS.pure (.value (.slice n c h))
  | chan h=>exact SS.pure (.value (.chan h))
  | mG=>exact SS.pure (.value .mG)
  | func fn V D E W X=>exact SS.pure (.value (.func fn V D E W X))
  | qH _ _=>exact (cM _ YR YR).ss
  | agg h i=>exact SS.pure (.value (.agg h i))
  | tuple h i=>exact SS.pure (.value (.tuple h i))
 case binOp m t x y t'=>
  obtain ⟨⟨⟨⟨w,z⟩,F⟩,I⟩,j⟩:=f;have Y:P.eqGuardType P.depth t=false:=by simpa using F
  have Z:P.underlying t≠S .unsafePointer:=YS;refine SS.wR ?_;refine SS.bind (yD m t Y x y (h.vr x w) (h.vr y z)) λr1 _ _ u _=> ?_;have K:=(h.vr x w).mono u;have L:=(h.vr y z).mono u;rw[G3]at j;rcases j with j | j
  ·exact Fx B.et m j t Z K L
  ·rw[m1]at j;obtain ⟨j,A⟩:=j;have ho:m= .eql\/m= .neq:=by cases m<;>first | exact .inl rfl | exact .inr rfl | cases j
   refine Pk B.et m ho t K L ?_;split at A
   ·rename_i k G;exact vK _ A (.inl ⟨k,G⟩)
   ·rename_i k G;exact vK _ A (.inr ⟨k,G⟩)
   ·cases y with
    | const v=>have:=h.const v;grind
    | _=>cases A
 case unOp m t x=>
  cases m<;>first | (cases f;done) | skip
  ·exact SS.wR (Mh (h.vr x f))
  ·exact SS.wR (Mi (h.vr x f))
 case makeFunc fn fs xs=>
  cases fn<;>first | (cases f;done) | skip
  rename_i H;rw[m1,m1]at f;have he:fs= #[]:=by simpa using f.2.1
  subst he;have u:=h.args f.2.2;exact SS.pure (.value (.func H f.1 YR (λi x y h _=>by simp at h) u.1 u.2))
 case convert s d x=>exact SS.wR (yC s d f.2 (h.vr x f.1))
 case makeSlice t l c=>exact SS.wR (tA (tW f.1) (h.vr l f.2.1) (h.vr c f.2.2))
 case fieldAddr s x i=>exact SS.wR (yF s (h.vr x f.1) i f.2)
 case indexAddr t x i=>exact SS.wR (yG t (h.vr x f.1) (h.vr i f.2))
 case slice t x lo hi mx=>obtain ⟨⟨w,⟨z,F⟩,I⟩,j⟩:=f;exact SS.wR (yH t (h.vr x w) (h.opt z) (h.opt F) (h.opt I) j)
 case extract x i=>exact SS.wR (yE (h.vr x f) i)
 case call c=>exact Ch B h c q f
section
variable {P:Program}{cs:Nat->Bool}{r:aU}
def ct (P:j6)(d:Nat->Bool):Code->Bool
 | .skip | .ret | .exit _=>true
 | .region _ e _=>e.all λo=>jM P d o.op
 | .seq a b=>ct P d a && ct P d b
 | .cond c a b=>cX c && ct P d a && ct P d b
 | .block _ a | .loop a=>ct P d a
 | _=>false
def bp (P:j6)(cs:Nat->Bool):K2->Bool
 | .code c | .inLoop c=>ct P cs c
 | .inBlock _=>true
 | .inRegion a _=>a.all λo=>jM P cs o.op
 | _=>false
structure sG (P:j6)(cs:Nat->Bool):Prop where
 ok:Qo P cs
 body: ∀f fn,cs f=true->P.funcs[f]? =S fn-> ∀c,fn.body=S c->ct P cs c=true
def ak (fn:m9)(tmps:Array h7)(todo:List K2):Frame:={fn,tmps,todo,defers:= [],mode:= .run,kind:= .normal}
def cP (fn:m9)(tmps:Array h7)(todo:List K2):Frame:={fn,tmps,todo,defers:= [],mode:= .returning,kind:= .normal}
def aR (q:Option Nat×List Deferred)(fn:m9)(tmps:Array h7)(todo:List K2):Frame:={fn,tmps,todo,defers:=q.2,mode:= .run,kind:= .normal,roundOf:=q.1}
inductive FR (P:j6)(cs:Nat->Bool)(r:aU):Frame->Frame->Prop
 | run {fn:m9} {x y:Array h7} {todo:List K2}:(∃f,P.funcs[fn]? =S f)->aB r x y->todo.all (bp P cs)=true->FR P cs r (ak fn x todo) (ak fn y todo)
 | ret {fn:m9} {x y:Array h7} {todo:List K2}:(∃f,P.funcs[fn]? =S f)->aB r x y->todo.all (bp P cs)=true->FR P cs r (cP fn x todo) (cP fn y todo)
inductive ze (P:j6)(cs:Nat->Bool)(r:aU):List Frame->List Frame->Prop
 | nil:ze P cs r [] []
 | cons {a b:Frame} {s t:List Frame}:FR P cs r a b->ze P cs r s t->ze P cs r (a::s) (b::t)
theorem FR.mono {s:aU}(k:Ext r s){a b:Frame}(h:FR P cs r a b):FR P cs s a b:=by
 cases h with
 | run c d e=>exact .run c (aB.mono k d) e
 | ret c d e=>exact .ret c (aB.mono k d) e
theorem ze.mono {s:aU}(k:Ext r s){a b:List Frame}(h:ze P cs r a b):ze P cs s a b:=by
 induction h with
 | nil=>exact .nil
 | cons h _ c=>exact .cons (h.mono k) c
theorem eK:Plain U:= .tuple R (λi x y h _=>by simp at h)
theorem aB.getD {x y:Array h7}(h:aB r x y)(t:Nat):VR r (x.getD t U) (y.getD t U):=by
 rw[u4,u4];cases c:x[t]? with
 | none=>
  have:y[t]? =none:=by rw[x1]at c ⊢;have:=h.1;omega
  rw[this];exact eK.vr r
 | some a=>obtain ⟨b,e,d⟩:=h.get c;grind
theorem ia {fn fn':m9}{x:Array h7}{t t':List K2}{d d':List Deferred}{m m':FrameMode}{k k':CallKind}(h:aB r x y):ER r (L4 {fn,tmps:=x,todo:=t,defers:=d,mode:=m,kind:=k}) (L4 {fn:=fn',tmps:=y,todo:=t',defers:=d',mode:=m',kind:=k'}) where
 vr o a:=by
  cases o with
  | tmp t=>exact h.getD t
  | const v=>exact (jN a).vr r
  | func f=>exact .func f a R (λi x y h _=>by simp at h) R (λi x y h _=>by simp at h)
  | global g=>cases a
 fn k:=⟨R,R⟩
 const v:=rfl
theorem Cf(a:VR r x z):SS P r RX (asAddr x) (asAddr z):=by
 cases a<;>first | exact SS.halt | skip
 ·rename_i h;exact SS.pure (.inl h)
 ·rename_i h b c;exact SS.pure (.inr ⟨h,b,c⟩)
def LR (r:aU)(l m:List h7):Prop:=l.length=m.length/\ ∀ (i:Nat) x y,l[i]? =S x->m[i]? =S y->VR r x y
theorem Ai {e:Type}(f g:e->u1 h7): ∀ (l:List e){r:aU},(∀b a,Ext r b->SS P b VR (f a) (g a))->SS P r LR (l.mapM f) (l.mapM g)
 | [],_,_=>by simp only[List.mapM_nil];exact SS.pure ⟨R,λi x y h _=>by simp at h⟩
 | a::l,r,h=>by
  simp only[List.mapM_cons];refine SS.bind (h r a (.refl r)) λs x y k c=> ?_;refine SS.bind (Ai f g l λb a m=>h b a (k.trans m)) λt u v d j=> ?_;refine SS.pure ⟨by simp[j.1],λi p q n o=> ?_⟩;cases i with
  | zero=>cases n;cases o;exact c.mono d
  | succ i=>exact j.2 i p q (by assumption) (by assumption)
theorem qs (d:Func)(h:aB r V y):SS P r VR (o7 d V) (o7 d y):=by
 unfold o7;rw[n9,n9,map_eq_pure_bind,map_eq_pure_bind];simp only[bind_assoc,pure_bind];refine SS.bind (Ai _ _ _ λg a e=> ?_) λj l m k b=> ?_
 ·cases a with
  | tmp t=>exact SS.pure ((aB.mono e h).getD t)
  | cell a t=>exact SS.bind (Cf ((aB.mono e h).getD a)) λn p q _ c=>qq t c
 ·refine SS.pure ?_;by_cases f:l.length=1
  ·rw[dif_pos YP,dif_pos (by rw[b.1]at f;omega)];refine b.2 0 _ _ ?_ ?_<;>simp
  ·rw[dif_neg YP,dif_neg (by rw[b.1]at f;omega)];exact .tuple (by simpa using b.1) λi V y o s=>b.2 i V y YS YS
theorem eP (g:m9)(es:Array Event): ∀e∈seen P g es,e∈es:=by
 have key: ∀ (l:List Event)(q:Bool)(k:Array Event),(∀e∈k,e∈es)->(∀e∈l,e∈es)->
   ∀e∈(l.foldl (λ(x:Bool×Array Event) e=>match e.loc with
    | .mark (.extern f)=>((P.funcs[f]?).any (·.norace),x.2)
    | _=>(x.1,if x.1 && !e.sync then x.2 else x.2.push e)) (q,k)).2,e∈es:=by
  intro l;induction l with
  | nil=>simp
  | cons a l c=>
   intro q k i d;simp only[List.foldl_cons];split
   ·exact c _ _ i (λe b=>d e (List.mem_cons_of_mem _ b))
   ·refine c _ _ ?_ (λe b=>d e (List.mem_cons_of_mem _ b));grind
 intro e b;dsimp only[seen]at b;rw[<-Array.foldl_toList]at b;exact key es.toList _ #[] (λe h=>by simp at h) (λe h=>YS) e b
inductive Out (P:j6)(cs:Nat->Bool)(r:aU)(k l:List Frame):h8->h8->Prop
 | inside {a b:Frame} {s t:List Frame}:FR P cs r a b->ze P cs r s t->Out P cs r k l (G a (s ++ k)) (G b (t ++ l))
 | back {c d:Frame} {t u:List Frame} {x y:h7}:k=c::t->l=d::u->VR r x y->Out P cs r k l (G (c.finish x) t) (G (d.finish y) u)
theorem qD(h:aB r V y)(c:Array Oper):l7 c V=l7 c y:=by
 funext j;unfold l7;cases k:(c[j]?).bind (·.dst)with
 | none=>rfl
 | some d=>
  simp only[Option.bind_some];cases f:V[d]? with
  | none=>
   have:y[d]? =none:=by rw[x1]at f ⊢;have:=h.1;omega
   rw[this]
  | some a=>obtain ⟨b,g,e⟩:=h.get f;rw[g];cases e<;>first | rfl | (rename_i i;cases b<;>first | rfl | exact False.elim i)
theorem kW {d:Nat}: ∀ {l b:List Item},exitTo d l=S b->l.all (bp P h)=true->b.all (bp P h)=true
 | [],_,a,_=>by simp[exitTo]at a
 | it::l,b,a,c=>by
  rw[List.all_cons,m1]at c;cases it<;>simp only[exitTo]at a
  case inBlock i=>
   split at a
   ·grind
   ·exact kW a c.2
  all_goals exact kW a c.2
theorem zk(h:(i.all λA=>jM P cs A.op)=true)(a:i[d]? =S A):jM P cs A.op=true:=by grind
theorem iH {fn:m9}(a:h7):
  (ak fn y (.inRegion i (q::l)::k)).finish a=ak fn (match (i[q]?).bind (·.dst)with | some d=>y.setIfInBounds d a | none=>y) (.inRegion i l::k):=rfl
theorem FR.finish {fn:m9}{x y:Array h7}{g:Array Oper}{i:Nat}{c:List Nat}{e:List K2}(k: ∃f,P.funcs[fn]? =some f)(h:aB r x y)(l:((Item.inRegion g (i::c))::e).all (bp P cs)=true){a b:h7}(j:VR r a b):
  FR P cs r ((ak fn x (.inRegion g (i::c)::e)).finish a) ((ak fn y (.inRegion g (i::c)::e)).finish b):=by
 rw[iH,iH];refine .run k ?_ ?_
 ·cases (g[i]?).bind (·.dst)with
  | none=>exact h
  | some d=>exact h.set j
 assumption
theorem FR.fin(u:FR P h r e O)(m:VR r x z):FR P h r (e.finish x) (O.finish z):=by
 cases u with
 | @run n p q a g b f=>
  cases a with
  | nil=>exact .run g b f
  | cons o a=>
   cases o with
   | inRegion j l=>
    cases l with
    | nil=>exact .run g b f
    | cons i k=>exact FR.finish g b f m
   | code c=>exact .run g b f
   | inBlock c=>exact .run g b f
   | inLoop c=>exact .run g b f
   | _=>simp[bp]at f
 | @ret n p q a g b f=>
  cases a with
  | nil=>exact .ret g b f
  | cons o a=>
   cases o with
   | inRegion j l=>
    cases l with
    | nil=>exact .ret g b f
    | cons i k=>
     have t: ∀ (s:Array Value)(c:Value),(cP n s (.inRegion j (i::k)::a)).finish c=cP n (match (j[i]?).bind (·.dst)with | some d=>s.setIfInBounds d c | none=>s) (.inRegion j k::a):=λ_ _=>rfl;rw[t,t];refine .ret g ?_ ?_
     ·cases (j[i]?).bind (·.dst)with
      | none=>exact b
      | some d=>exact b.set m
     assumption
   | code c=>exact .ret g b f
   | inBlock c=>exact .ret g b f
   | inLoop c=>exact .ret g b f
   | _=>simp[bp]at f
end
def aK (v:World)(tp:Nat->k9->Nat)(d:Nat):World:={v with tape:=tp,drawn:=d}
def EY {b:Type}(c:Nat->k9->Nat)(d:Nat):Result b->Result b
 | .ok a w=> .ok a (aK w c d)
 | .halt h w=> .halt h (aK w c d)
def CB (n:Nat)(b:Nat->k9->Nat)(d:Nat)(a:Nat->k9->Nat)(c:Nat):Prop:= ∀j q,j<n->a (c + j) q=b (d + j) q
theorem CB.tail {n:Nat}{tp a:Nat->k9->Nat}{d':Nat}(h:CB (n + 1) tp d a d'):CB n tp (d + 1) a (d' + 1):=λj q b=>by have:=h (j + 1) q YP;grind
theorem uS(P:j6)(s:u1 o)(w:World)(f:Array x3): ∀e∈f,e∈(s.runT P w f).2:=by
 intro e d;induction s generalizing w f with
 | pure a=>exact d
 | load m a k b=>simp only[j2];grind
 | store m a v k b=>
  cases v<;>simp only[j2]<;>first | exact d | skip
  all_goals
   split
   ·split
    ·exact d
    ·exact b _ _ (A9.2 (.inl d))
   ·split
    ·exact b _ _ (Array.mem_append.2 (.inl d))
    ·exact d
 | new g k b=>exact b _ _ _ d
 | shape r k b=>exact b _ _ _ d
 | freeze a n k b=>exact b _ _ d
 | frozen a k b=>exact b _ _ _ d
 | getObj r k b=>simp only[j2];grind
 | setObj r g k b=>simp only[j2];grind
 | choose q k b=>simp only[j2];grind
 | sys c k b=>exact b _ _ _ (A9.2 (.inl d))
 | program k b=>exact b _ _ _ d
 | mark m k b=>exact b _ _ (A9.2 (.inl d))
 | halt h=>exact d
theorem tL (p:j6)(v:World)(f:Nat->k9->Nat)(d:Nat)(a:n5)(u:j4)(k:n5)(x:h7)(b:Bool):
  (aK v f d).viewStore p a u k x b=(v.viewStore p a u k x b).map λy=>(aK y.1 f d,y.2):=by
 unfold F9;have e:(aK v f d).seen p a u k b=v.seen p a u k b:=rfl;rw[e];simp only[bind,K4];split
 ·rfl
 ·cases v.seen p a u k b with
  | error h=>rfl
  | ok y=>
   obtain ⟨c,e,j,first,i,g⟩:=y;dsimp only;cases x.bytes? with
   | none=>rfl
   | some bytes=>
    dsimp only;split
    ·rfl
    ·split<;>rfl
theorem uU (p:j6)(v:World)(c:Nat->k9->Nat)(d:Nat)(a:n5)(x:h7)(b:Bool):
  (aK v c d).farStore p a x b=(v.farStore p a x b).map λy=>(aK y.1 c d,y.2):=by
 unfold q2;have e:(aK v c d).heap=v.heap:=rfl;rw[e];have g:(aK v c d).noCell a "store: no such cell" =v.noCell a "store: no such cell" :=rfl;rw[g];generalize v.noCell a "store: no such cell" =z;cases v.heap[a.block]? with
 | none=>rfl
 | some o=>
  cases o with
  | view f u=>simp only[tL];cases v.viewStore p f u a x b<;>rfl
  | _=>rfl
def Nb {a:Type}:Result a->World
 | .ok _ w=>w
 | .halt _ w=>w
theorem Aa(P:j6)(s:u1 o): ∀ (v:World)(b:Nat->Question->Nat)(d:Nat)(g:Array Event),(∀e∈(s.runT P (aK v b d) g).2,e.loc≠ .output)->
  ∃n,(Nb (s.runT P (aK v b d) g).1).drawn=d + n/\(Nb (s.runT P (aK v b d) g).1).tape=b/\
   ∀f j,CB n b d f j->s.runT P (aK v f j) g=(EY f (j + n) (s.runT P (aK v b d) g).1,(s.runT P (aK v b d) g).2):=by
 induction s with
 | pure a=>exact λv b d g _=>⟨0,R,R,λf j _=>rfl⟩
 | load m a k i=>
  intro v b d g;simp only[j2];have l: ∀b d,(aK v b d).cell? a=v.cell? a:=λ_ _=>rfl;have t: ∀b d,(aK v b d).farLoad P a (m== .atomic)=v.farLoad P a (m== .atomic):=λ_ _=>rfl;simp only[l,t];cases v.cell? a with
  | some x=>simp_all
  | none=>
   dsimp only;cases v.farLoad P a (m== .atomic)with
   | ok y=>simp_all
   | error h=>exact λ_=>⟨0,R,R,λf j _=>rfl⟩
 | store m a x k i=>
  intro v b d g;have l: ∀b d,(aK v b d).cell? a=v.cell? a:=λ_ _=>rfl;have t: ∀b d,(aK v b d).frozen? a=v.frozen? a:=λ_ _=>rfl;cases x<;>simp only[j2]<;>first | exact λ_=>⟨0,R,R,λf j _=>rfl⟩ | skip
  all_goals
   simp only[l,t,uU];cases v.cell? a with
   | some y=>
    dsimp only;split
    ·exact λ_=>⟨0,R,R,λf j _=>rfl⟩
    ·exact i (v.setCell a _) b d _
   | none=>
    dsimp only;cases v.farStore P a _ (m== .atomic)with
    | ok y=>exact i y.1 b d _
    | error h=>exact λ_=>⟨0,R,R,λf j _=>rfl⟩
 | new p k i=>exact λv b d g h=>i v.heap.size {v with heap:=v.heap.push p} b d g h
 | shape r k i=>exact λv b d g h=>i (v.shape? r) v b d g h
 | freeze a n k i=>
  intro v b d g;have e: ∀b d,(aK v b d).freeze a n=aK (v.freeze a n) b d:=λb d=>by unfold World.freeze aK;split<;>rfl
  simp only[j2,e];simp_all
 | frozen a k i=>exact λv b d g h=>i (v.frozen? a) v b d g h
 | getObj r k i=>
  intro v b d g;simp only[j2];have l: ∀b d,(aK v b d).heap=v.heap:=λ_ _=>rfl;simp only[l];cases v.heap[r]? with
  | none=>exact λ_=>⟨0,R,R,λf j _=>rfl⟩
  | some p=>cases p<;>first | exact λ_=>⟨0,R,R,λf j _=>rfl⟩ | exact i _ v b d _
 | setObj r p k i=>
  intro v b d g;simp only[j2];have l: ∀b d,(aK v b d).heap=v.heap:=λ_ _=>rfl;simp only[l];cases v.heap[r]? with
  | none=>exact λ_=>⟨0,R,R,λf j _=>rfl⟩
  | some w=>cases w<;>first | exact λ_=>⟨0,R,R,λf j _=>rfl⟩ | exact i {v with heap:=v.heap.setIfInBounds r p} b d _
 | choose q k i=>
  intro v b d g;simp only[j2];split
  ·simp_all
  ·intro h;obtain ⟨n,z,A,B⟩:=i (q.cut (b d q)) v b (d + 1) g h;refine ⟨n + 1,by rw[show d + (n + 1)=d + 1 + n by omega];exact z,A,λf j u=> ?_⟩;have e:=u 0 q YP;simp only[Nat.add_zero]at e;have:=B f (j + 1) u.tail;rw[show j + (n + 1)=j + 1 + n by omega];show (k (q.cut (f j q))).runT P (aK v f (j + 1)) g=_;rw[e];exact this
 | sys c k i=>intro v b d g h;refine absurd R (h ⟨.output,true,false⟩ ?_);simp only[j2];exact uS _ _ _ _ _ (Array.mem_push.2 (.inr R))
 | program k i=>exact λv b d g h=>i P v b d g h
 | mark m k i=>exact λv b d g h=>i v b d _ h
 | halt h=>exact λv b d g _=>⟨0,R,R,λf j _=>rfl⟩
section
variable {P:Program}{cs:Nat->Bool}{r:aU}{v w:World}{m m':Bool}{s t k l:List Frame}
def iN (r:aU):aU:=r.mapIdx λi p=>(i,p.2)
theorem nS{k:BK}(h:r[d]? =S (q,k)):(iN r)[d]? =S (d,k):=by unfold iN;grind
theorem iw{k:BK}(h:(iN r)[d]? =S (q,k)):q=d/\ ∃y,r[d]? =S (y,k):=by unfold iN at h;grind
theorem RA.self {b:n5}(h:RA r n b):RA (iN r) n n:=⟨nS h.1,R,R⟩
theorem VR.self {x y:Value}(h:VR r x y):VR (iN r) x x:=by
 have d: ∀ {c e:Array Value},c.size=e.size->(∀ (i:Nat) x y,c[i]? =S x->e[i]? =S y->VR (iN r) x x)-> ∀ (i:Nat) x y,c[i]? =S x->c[i]? =S y->VR (iN r) x y:=YS;induction h with
 | bool b=>exact .bool b
 | int k n=>exact .int k n
 | float k b=>exact .float k b
 | complex k a b=>exact .complex k a b
 | string t=>exact .string t
 | vV=>exact .vV
 | ptr h=>exact .ptr h.self
 | num h f g=>exact .num (nS h) R R
 | eQ n c=>exact .eQ n c
 | slice n c h=>exact .slice n c h.self
 | chan h=>exact .chan (nS h)
 | mG=>exact .mG
 | func fn j f _ g _ l m=>exact .func fn j R (d f l) R (d g m)
 | nilFunc=>exact .nilFunc
 | qH _ _=>exact .nilFunc
 | nilIface=>exact .nilIface
 | agg h _ i=>exact .agg R (d h i)
 | tuple h _ i=>exact .tuple R (d h i)
theorem aB.self {x y:Array h7}(h:aB r x y):aB (iN r) x x:=⟨R,λi a b d e=>by rw[d]at e;cases e;obtain ⟨c,_,f⟩:=h.get d;exact f.self⟩
theorem dA.self (h:dA r C w):dA (iN r) C C where
 size:=by unfold iN;rw[E2];exact h.size
 inj i j x k s hi hj _ _:=by rw[<-(iw hi).1,<-(iw hj).1]
 low i x k hi _:=by obtain ⟨rfl,y,d⟩:=iw hi;rw[h.size];grind
 et i x k hi hk:=by obtain ⟨rfl,y,d⟩:=iw hi;exact ⟨(h.et _ _ _ d hk).1,(h.et _ _ _ d hk).1⟩
 pos:=⟨by unfold iN;rw[E2];exact h.pos.1,by rw[h.size];exact h.pos.1⟩
 cells b x hb:=by obtain ⟨rfl,y,d⟩:=iw hb;obtain ⟨c,e,f,n,o,g,_,l,_⟩:=h.cells _ _ d;exact ⟨c,e,f,c,f,g,g,l.imp id (·.self),λk _ m l=>⟨m,l⟩⟩
 num b x hb:=by obtain ⟨rfl,y,d⟩:=iw hb;obtain ⟨a,p,s,g,_,l⟩:=h.num _ _ d;exact ⟨a,a,s,g,g,l.self⟩
theorem Ag.refl (n:Nat)(v:World):Ag n v v:=λ_ _ _=>rfl
def jJ (P:j6)(y:Nat->Bool)(r:aU)(v w:World)(m z:Bool)(a b:Frame)(s t k l:List Frame):Prop:=
 (∃o c f,j1 P m (G a (s ++ k)) v= .ended o c f)\/
 (∃A c f,j1 P m (G a (s ++ k)) v= .go (G {a with mode:= .panicking A} (s ++ k)) c f)\/
 ∃h c f,j1 P m (G a (s ++ k)) v= .go h c f/\(∃i,c.drawn=v.drawn + i/\c.tape=v.tape/\ ∀d j,CB i v.tape v.drawn d j-> ∃p,j1 P m (G a (s ++ k)) (aK v d j)= .go h (aK c d (j + i)) p)/\ ∀n,c.drawn<=v.drawn + n->Ag n v w->
  ∃g u q x,j1 P z (G b (t ++ l)) w= .go u q x/\dA g c q/\jf r g v w c q/\(∀e∈x,jd g c e)/\Out P y g k l h u
theorem jJ.move (d:dA r C w){a b a1 b1:Frame}(c: ∀u,j1 P m (G a (s ++ k)) u= .go (G a1 (s ++ k)) u)(f:j1 P m' (G b (t ++ T)) w= .go (G b1 (t ++ T)) w)(g:FR P cs r a1 b1)(h:ze P cs r s t):jJ P cs r C w m m' a b s t k T:=
 .inr (.inr ⟨_,C,_,c C,⟨0,R,R,λi d' _=>⟨_,c _⟩⟩,λ_ _ _=>⟨r,_,w,_,f,d,.refl _ _ _,λe j=>by simp at j,.inside g h⟩⟩)
theorem iF{C:List Frame}{q:Sem Next}{h:World}{x:Next}(j:e.kind= .normal)(i:q.runT P w #[]=(.ok x h,I))(k: ∀a b c d s,e.todo≠ .call a b c d::s):
  (∀z,x= .value z->stepG.apply P true e C none q w= .go (G (e.finish z) C) h (G4 P e.fn I))/\
  (x= .skip->stepG.apply P true e C none q w= .go (G (e.finish U) C) h (G4 P e.fn I))/\
  (∀f a,x= .enter f a->stepG.apply P true e C none q w= .go (G (Frame.enter P f a .normal) (e::C)) h (G4 P e.fn I)):=by
 have g:(e.kind==CallKind.early)=false:=by rw[j];rfl
 refine ⟨?_,?_,?_⟩
 ·rintro z rfl;simp[stepG.apply,i,g,GStep.after,G, -Sem.runT_eq]
 ·rintro rfl;simp[stepG.apply,i,g,GStep.after,G, -Sem.runT_eq]
 ·rintro f a rfl;simp only[stepG.apply,i,g,GStep.after,G,if_true,Bool.false_eq_true,if_false];grind
theorem xl{C:List Frame}{q:u1 Next}{d:World}{h:Halt}(f:e.mode= .run)(a:q.runT P w #[]=(.halt h d,I))(c:iJ h):
  (∃o b I,stepG.apply P true e C none q w= .ended o b I)\/ ∃g b I,stepG.apply P true e C none q w= .go (G {e with mode:= .panicking g} C) b I:=by
 cases h with
 | panic x=>refine .inr ?_;simp only[stepG.apply,a,if_true,m8];unfold Frame.raise;rw[f];exact ⟨_,_,_,R⟩
 | stuck x=>refine .inl ?_;simp only[stepG.apply,a,if_true,m8];simp
 | unsupported u=>
  refine .inl ?_;cases u<;>first | exact c.elim | skip
  all_goals
   simp only[stepG.apply,a,if_true,m8];exact ⟨_,_,_,R⟩
 | _=>exact c.elim
theorem rO (e:x3)(h: ∃r w,jd r w e):e.loc≠ .output:=by obtain ⟨r,w,h⟩:=h;cases h<;>simp
theorem qw (hs:dA r v w){a b:Frame}{C D:List Frame}{q p:u1 Next}(E:a.kind= .normal)(I:b.kind= .normal)(a0:a.mode= .run)(F: ∀x y z u t,a.todo≠ .call x y z u::t)(J: ∀x y z u t,b.todo≠ .call x y z u::t)
  (l:SS P (iN r) (NR (mJ P cs)) q q)(a1:SS P r (NR (mJ P cs)) q p)
  (K:aU->Goroutine->Goroutine->Prop)
  (hv: ∀c x y,Ext r c->VR c x y->K c (G (a.finish x) C) (G (b.finish y) D))
  (L: ∀c f x y,Ext r c->mJ P cs f=true->aB c x y->K c (G (Frame.enter P f x .normal) (a::C)) (G (Frame.enter P f y .normal) (b::D))):
  (∃o d i,stepG.apply P true a C none q v= .ended o d i)\/
  (∃ch d i,stepG.apply P true a C none q v= .go (G {a with mode:= .panicking ch} C) d i)\/
  ∃M d i,stepG.apply P true a C none q v= .go M d i/\(∃A,d.drawn=v.drawn + A/\d.tape=v.tape/\ ∀g d',CB A v.tape v.drawn g d'-> ∃N,stepG.apply P true a C none q (aK v g d')= .go M (aK d g (d' + A)) N)/\ ∀n,d.drawn<=v.drawn + n->Ag n v w->
   ∃c B j k,stepG.apply P true b D none p w= .go B j k/\dA c d j/\jf r c v w d j/\(∀e∈k,jd c d e)/\K c M B:=by
 match H:q.runT P v #[]with
 | (.halt h d,i)=>
  have ok:=(l v v #[] #[] d.drawn hs.self (.refl _ _)).2 _ _ _ H YP;rcases xl (C:=C) a0 H ok with h | h
  ·exact .inl h
  grind
 | (.ok x d,i)=>
  obtain ⟨_,y,_,O,hq,_,_,hn,a4⟩:=(l v v #[] #[] d.drawn hs.self (.refl _ _)).1 _ _ _ H YP;rw[H]at hq;have a2:O=i:=by cases hq;rfl
  subst a2;have a3: ∀e∈O,∃r v,jd r v e:=YS;have ha:=iF (C:=C) E H F;have Q: ∀ (W:Goroutine),stepG.apply P true a C none q v= .go W d (G4 P a.fn O)->(∀c y j k,Ext r c->NR (mJ P cs) c x y->p.runT P w #[]=(.ok y j,k)-> ∃B,stepG.apply P true b D none p w= .go B j (G4 P b.fn k)/\K c W B)->(∀u X i,q.runT P u #[]=(.ok x X,i)->stepG.apply P true a C none q u= .go W X (G4 P a.fn i))->
    ∃M d i,stepG.apply P true a C none q v= .go M d i/\(∃A,d.drawn=v.drawn + A/\d.tape=v.tape/\ ∀g d',CB A v.tape v.drawn g d'-> ∃N,stepG.apply P true a C none q (aK v g d')= .go M (aK d g (d' + A)) N)/\ ∀n,d.drawn<=v.drawn + n->Ag n v w->
     ∃c B j k,stepG.apply P true b D none p w= .go B j k/\dA c d j/\jf r c v w d j/\(∀e∈k,jd c d e)/\K c M B:=λW h1 h2 h0=>by
   obtain ⟨A,l1,l2,l3⟩:=Aa P q v v.tape v.drawn #[] (by intro e L;change e∈(q.runT P v #[]).2 at L;rw[H]at L;exact rO e (a3 e L));change (Nb (q.runT P v #[]).1).drawn=_ at l1;change (Nb (q.runT P v #[]).1).tape=_ at l2;change ∀g d',_->_=(EY g (d' + A) (q.runT P v #[]).1,(q.runT P v #[]).2)at l3;rw[H]at l1 l2 l3;refine ⟨W,d,_,h1,⟨A,l1,l2,λg d' T=>⟨_,h0 _ _ _ (l3 g d' T)⟩⟩,λn hd T=> ?_⟩;obtain ⟨c,y,j,k,k1,k2,k3,k4,k5⟩:=(a1 v w #[] #[] n hs T).1 _ _ _ H hd;obtain ⟨B,k6,k7⟩:=h2 c y j k k3.ext k4 k1;refine ⟨c,B,j,_,k6,k2,k3,λe L=> ?_,k7⟩;rcases k5 e (eP _ _ e L)with h | h
   ·simp at h
   ·exact h
  refine .inr (.inr ?_);cases hn with
  | value _=>
   refine Q _ (ha.1 _ R) (λc y j k m s Y=> ?_) (λu X i Z=>(iF (C:=C) E Z F).1 _ R);cases s with
   | value V=>exact ⟨_,(iF (C:=D) I Y J).1 _ R,hv c _ _ m V⟩
  | skip=>
   refine Q _ (ha.2.1 R) (λc y j k m s Y=> ?_) (λu X i Z=>(iF (C:=C) E Z F).2.1 R);cases s with
   | skip=>exact ⟨_,(iF (C:=D) I Y J).2.1 R,hv c _ _ m (eK.vr c)⟩
  | enter f _ _=>
   refine Q _ (ha.2.2 _ _ R) (λc y j k m s Y=> ?_) (λu X i Z=>(iF (C:=C) E Z F).2.2 _ _ R);cases s with
   | enter f hc V=>exact ⟨_,(iF (C:=D) I Y J).2.2 _ _ R,L c f _ _ m hc V⟩
theorem FR.enter (j:sG P cs){f:m9}(d:mJ P cs f=true){x y:Array Value}(h:aB r x y):FR P cs r (Frame.enter P f x .normal) (Frame.enter P f y .normal):=by
 unfold mJ at d;rw[m1]at d;obtain ⟨k,l⟩:=d;obtain ⟨fn,g,l⟩: ∃fn,P.funcs[f]? =some fn/\fn.body.isSome=true:=by grind
 cases a:fn.body with
 | none=>grind
 | some c=>
  have e: ∀z:Array Value,Frame.enter P f z .normal=ak f (z ++ Array.replicate (fn.ntmps - z.size) U) [.code c]:=λz=>by simp[Frame.enter,g,a,ak]
  rw[e,e,h.1];refine .run ⟨fn,g⟩ (h.append ?_) ?_
  ·exact aB.same λi z b=>by
    rw[Array.getElem?_replicate]at b;split at b
    ·cases b;exact eK
    ·cases b
  ·simp[bp,j.body f fn k g c a]
theorem tE (hP:sG P cs)(H:dA r v w){a b:Frame}(hF:FR P cs r a b)(V:ze P cs r s t)(hk: ∃c k',k=c::k')(hl: ∃c k',l=c::k'):jJ P cs r v w m m' a b s t k l:=by
 cases hF with
 | @ret fn x y j O I ho=>
  obtain ⟨f,a2⟩:=O;have hd: ∀ (E:Bool)(z:Array Value)(C:List Frame)(u:World),j1 P E (G (cP fn z j) C) u=(match (o7 f z).runT P u #[]with
    | (.ok c X,L)=>m8 (G4 P fn L) (L1 P E (cP fn z j) C none c X)
    | (.halt (.stuck s) X,L)=>m8 (G4 P fn L) (.ended (.stuck s ((cP fn z j).pos P)) X)
    | (.halt _ X,L)=>m8 (G4 P fn L) (.ended (.stuck "return: the result variables cannot be read" ((cP fn z j).pos P)) X)):=λE z C u=>by
   simp only[G,j1,I1,cP,a2];grind
  have a3:=qs (P:=P) f I.self v v #[] #[];have b3:=qs (P:=P) f I v w #[] #[];match J:(o7 f x).runT P v #[]with
  | (.halt h v1,L)=>refine .inl ?_;rw[hd,J];cases h<;>exact ⟨_,_,_,R⟩
  | (.ok c v1,L)=>
   obtain ⟨_,_,_,b4,hq,_,_,_,a8⟩:=(a3 v1.drawn H.self (.refl _ _)).1 _ _ _ J YP;rw[J]at hq;have b5:b4=L:=by cases hq;rfl
   subst b5;obtain ⟨nd,l1,l2,l3⟩:=Aa P (o7 f x) v v.tape v.drawn #[] (by
    intro e M;change e∈((o7 f x).runT P v #[]).2 at M;rw[J]at M;rcases a8 e M with h | h
    ·simp at h
    ·exact rO e ⟨_,_,h⟩)
   change (Nb ((o7 f x).runT P v #[]).1).drawn=_ at l1;change (Nb ((o7 f x).runT P v #[]).1).tape=_ at l2;change ∀Q d',_->_=(EY Q (d' + nd) ((o7 f x).runT P v #[]).1,((o7 f x).runT P v #[]).2)at l3;rw[J]at l1 l2 l3;have ret: ∀ (E:Bool)(z:Array Value)(c:Value)(p:Frame)(C:List Frame)(u X:World)(L:Array Event),(o7 f z).runT P u #[]=(.ok c X,L)->j1 P E (G (cP fn z j) (p::C)) u= .go (G (p.finish c) C) X (G4 P fn L):=λE z c p C u X L h=>by rw[hd,h];rfl
   have a9: ∀ (p p':Frame)(C C':List Frame),s ++ k=p::C->t ++ l=p'::C'->(∀W x y,Ext r W->VR W x y->Out P cs W k l (G (p.finish x) C) (G (p'.finish y) C'))->jJ P cs r v w m m' (cP fn x j) (cP fn y j) s t k l:=λp p' C C' e1 e2 hK=>by
    refine .inr (.inr ⟨_,v1,_,by rw[e1];exact ret m x c p C v v1 _ J,⟨nd,l1,l2,λQ d' K=>⟨_,by rw[e1];exact ret m x c p C _ _ _ (l3 Q d' K)⟩⟩,λn hd K=> ?_⟩);obtain ⟨W,y',w1,fs,k1,k2,k3,k4,k5⟩:=(b3 n H K).1 _ _ _ J hd;refine ⟨W,_,w1,_,by rw[e2];exact ret m' y y' p' C' w w1 fs k1,k2,k3,λe M=> ?_,hK W _ _ k3.ext k4⟩;rcases k5 e (eP _ _ e M)with h | h
    ·simp at h
    ·exact h
   cases V with
   | nil=>obtain ⟨c0,k',rfl⟩:=hk;obtain ⟨d0,l',rfl⟩:=hl;exact a9 c0 d0 k' l' R R λW x y _ a4=> .back R R a4
   | @cons p p' s' t' hp b6=>exact a9 p p' (s' ++ k) (t' ++ l) R R λW x y J a4=> .inside ((hp.mono J).fin a4) (b6.mono J)
 | @run fn x y j O I ho=>
  cases j with
  | nil=>exact .move H (a1:=cP fn x []) (b1:=cP fn y []) (λu=>YV) YV (.ret O I ho) V
  | cons it j=>
   rw[List.all_cons,Bool.and_eq_true]at ho;obtain ⟨F,Y⟩:=ho;have b0: ∀ {q:List Item},q.all (bp P cs)=true->(q ++ j).all (bp P cs)=true:=YS;have Z: ∀ (q:List Item),q.all (bp P cs)=true->(∀ (E:Bool)(z:Array Value)(C:List Frame)(u:World),j1 P E (G (ak fn z (it::j)) C) u= .go (G (ak fn z (q ++ j)) C) u)->jJ P cs r v w m m' (ak fn x (it::j)) (ak fn y (it::j)) s t k l:=λq hq h=>.move H (λu=>h _ _ _ _) (h _ _ _ _) (.run O I (b0 hq)) V;cases it with
   | inBlock id=>exact Z [] R λE z C u=>YV
   | inLoop c=>exact Z [.code c,.inLoop c] (by simpa[bp]using F) λE z C u=>YV
   | code c=>
    cases c with
    | skip=>exact Z [] R λE z C u=>YV
    | ret=>exact .move H (a1:=cP fn x (.code .ret::j)) (b1:=cP fn y (.code .ret::j)) (λu=>YV) YV (.ret O I (by assumption)) V
    | seq p q=>exact Z [.code p,.code q] (by simpa[bp,ct]using F) λE z C u=>YV
    | block id p=>exact Z [.code p,.inBlock id] (by simpa[bp,ct]using F) λE z C u=>YV
    | loop p=>exact Z [.code p,.inLoop p] (by simpa[bp,ct]using F) λE z C u=>YV
    | exit id=>
     cases M:exitTo id j with
     | none=>exact .inl ⟨_,_,_,by simp[G,ak,j1,s5,M];exact ⟨R,R,R⟩⟩
     | some T=>exact .move H (a1:=ak fn x T) (b1:=ak fn y T) (λu=>by simp[G,ak,j1,s5,M]) (by simp[G,ak,j1,s5,M]) (.run O I (kW M Y)) V
    | cond c p q=>
     simp only[bp,ct,Bool.and_eq_true]at F;obtain ⟨⟨o1,o2⟩,o3⟩:=F;have hc:=(ia (fn:=fn) (fn':=fn) (t:= .code (.cond c p q)::j) (t':= .code (.cond c p q)::j) (d:= []) (d':= []) (m:= .run) (m':= .run) (k:= .normal) (k':= .normal) I).vr c o1;change VR r ((ak fn x (.code (.cond c p q)::j)).eval c) ((ak fn y (.code (.cond c p q)::j)).eval c)at hc;have N: ∀ (E:Bool)(z:Array Value)(C:List Frame)(u:World)(g:Bool),(ak fn z (.code (.cond c p q)::j)).eval c= .bool g->j1 P E (G (ak fn z (.code (.cond c p q)::j)) C) u= .go (G (ak fn z (.code (if g then p else q)::j)) C) u:=λE z C u g h=>by simp only[ak]at h;simp[G,ak,j1,s5,h]
     generalize h1:(ak fn x (.code (.cond c p q)::j)).eval c=e1 at hc;generalize h2:(ak fn y (.code (.cond c p q)::j)).eval c=e2 at hc;have no:(∀g,e1≠ .bool g)->jJ P cs r v w m m' (ak fn x (.code (.cond c p q)::j)) (ak fn y (.code (.cond c p q)::j)) s t k l:=λhn=>by refine .inl ⟨.stuck "cond: bool expected" ((ak fn x (.code (.cond c p q)::j)).pos P),v,#[],?_⟩;simp only[ak]at h1;simp only[G,ak,j1,s5,h1]
     cases hc with
     | bool g=>
      refine .move H (λu=>N m x (s ++ k) u g h1) (N m' y (t ++ l) w g h2) (.run O I ?_) V;rw[List.all_cons,Y,Bool.and_true];cases g
      ·exact o3
      ·exact o2
     | _=>exact no YR
    | region id A d=>
     cases d with
     | false=>exact Z [.inRegion A (List.range A.size)] (by simpa[bp,ct]using F) λE z C u=>YV
     | true=>
      have N: ∀ (E:Bool)(z:Array Value)(C:List Frame)(u:World),j1 P E (G (ak fn z (.code (.region id A true)::j)) C) u= .go (G (ak fn z (.inRegion A (Region.schedule (P.follows .mixedOrders) A (u.tape u.drawn (.order fn id)))::j)) C) {u with drawn:=u.drawn + 1}:=λE z C u=>by rfl
      refine .inr (.inr ⟨_,_,_,N m x (s ++ k) v,⟨1,R,R,λQ d' K=>⟨_,by have h0:=K 0 (.order fn id) YP;simp only[D2]at h0;rw[<-h0];exact N m x (s ++ k) (aK v Q d')⟩⟩,λn hd K=> ?_⟩);have h0:=K 0 (.order fn id) YS;simp only[D2]at h0;refine ⟨r,_,_,_,N m' y (t ++ l) w,⟨H.size,H.inj,H.low,H.et,H.pos,H.cells,H.num⟩,
       ⟨.refl r,λ_ _ _ h=> .inl h,n3 _,λ_ _ _=>rfl,R,R,R,R,YR,YT,n3 _,λ_ _=>Iff.rfl,λ_ _=>Iff.rfl,λ_ c _ f h=>⟨c,f,h⟩⟩,λe M=>by simp at M,?_⟩
      rw[<-h0];refine .inside (.run O I ?_) V;rw[List.all_cons,Y,Bool.and_true];exact F
    | _=>cases F
   | inRegion A a5=>
    cases a5 with
    | nil=>exact Z [] R λE z C u=>YV
    | cons i B=>
     have hy:=qD I A;by_cases hw:((A[i]?).map (j5 · (l7 A x))).getD false=true
     ·cases a6:A[i]? with
      | none=>grind
      | some o=>
       have b2:=zk F a6;have N: ∀ (E:Bool)(z:Array Value)(C:List Frame)(u:World),l7 A x=l7 A z->j1 P E (G (ak fn z (.inRegion A (i::B)::j)) C) u=stepG.apply P true (ak fn z (.inRegion A (i::B)::j)) C none (u3 (ak fn z (.inRegion A (i::B)::j)).eval o) u:=λE z C u hz=>by
        rw[a6,hz]at hw;have b7:j5 o (l7 A z)=true:=by simpa using hw
        simp[G,ak,j1,s5,stepG.oper,Frame.oper?,a6,b7]
       have a0:((Item.inRegion A (i::B))::j).all (bp P cs)=true:=by rw[List.all_cons,Y,Bool.and_true];exact F
       have key:=qw (P:=P) (cs:=cs) H (a:=ak fn x (.inRegion A (i::B)::j)) (b:=ak fn y (.inRegion A (i::B)::j)) (C:=s ++ k) (D:=t ++ l) R R R (by simp[ak]) (by simp[ak])
        (jR hP.ok (ia (fn:=fn) (fn':=fn) (t:= .inRegion A (i::B)::j) (t':= .inRegion A (i::B)::j) (d:= []) (d':= []) (m:= .run) (m':= .run) (k:= .normal) (k':= .normal) I.self) o b2)
        (jR hP.ok (ia (fn:=fn) (fn':=fn) (t:= .inRegion A (i::B)::j) (t':= .inRegion A (i::B)::j) (d:= []) (d':= []) (m:= .run) (m':= .run) (k:= .normal) (k':= .normal) I) o b2)
        (Out P cs · k l) (λW p q J a7=> .inside (FR.finish O (aB.mono J I) a0 a7) (V.mono J))
        (λW f p q J a2 a7=> .inside (s:=_::s) (t:=_::t) (FR.enter hP a2 a7) (.cons (.run O (aB.mono J I) a0) (V.mono J)))
       unfold jJ;simp only[N m x _ _ R,N m' y _ _ hy];exact key
     ·have N: ∀ (E:Bool)(z:Array Value)(C:List Frame)(u:World),l7 A x=l7 A z->j1 P E (G (ak fn z (.inRegion A (i::B)::j)) C) u= .go (G ((ak fn z (.inRegion A (i::B)::j)).finish U) C) u:=λE z C u hz=>by rw[hz]at hw;simp only[Bool.not_eq_true]at hw;simp[G,ak,j1,s5,hw]
      exact .move H (λu=>N m x _ u R) (N m' y _ _ hy) (FR.finish O I YS (eK.vr r)) V
   | _=>cases F
end
section
variable {P:Program}{cs:Nat->Bool}
def cB:Frame:={fn:=0,tmps:= #[U],todo:= [.inRegion #[{dst:=S 0,op:= .alloc 0,type:=0,pos:= "",after:= #[],guard:=none}] [0]],defers:= [{target:= .nil,args:= #[]}],mode:= .panicking [],kind:= .normal}
def nq (P:j6)(a:Frame)(s:List Frame)(v:World)(b:Nat->k9->Nat)(d:Nat):GStep:=j1 P true (G a (s ++ [cB])) (aK v b d)
def oV (P:j6)(b:Nat->Bool)(a:Frame)(s:List Frame)(v:World):Prop:= ∃r,dA r v v/\FR P b r a a/\ze P b r s s
theorem dA.on{v:World}(h:dA r v w)(b a:Nat->k9->Nat)(d c:Nat):dA r (aK v b d) (aK w a c):=⟨h.size,h.inj,h.low,h.et,h.pos,h.cells,h.num⟩
def MI (P:j6)(i:Nat->Bool)(a:Frame)(s:List Frame)(v:World)(j:Nat->k9->Nat)(d:Nat)(e:Frame)(f:List Frame)(g:World)(h:Nat):Prop:=
 oV P i e f g/\ ∀b c,CB h j d b c-> ∃k,nq P a s v b c= .go (G e (f ++ [cB])) (aK g b (c + h)) k
def Sv (P:j6)(a:Frame)(s:List Frame)(v:World)(f:Nat->k9->Nat)(d:Nat)(x:h7)(g:World)(e:Nat):Prop:=
 ∀b c,CB e f d b c-> ∃h,nq P a s v b c= .go (G (cB.finish x) []) (aK g b (c + e)) h
theorem CB.refl (n:Nat)(tp:Nat->k9->Nat)(d:Nat):CB n tp d tp d:=λ_ _ _=>rfl
theorem lA(h:G e (s ++ [cB])=G O (T ++ [cB])):e=O/\s=T:=by
 injection h with a b
 simp_all
theorem Out.two(k:Out P h r [cB] [cB] j Z):(∃a b s t,j=G a (s ++ [cB])/\Z=G b (t ++ [cB])/\FR P h r a b/\ze P h r s t)\/ ∃x y,j=G (cB.finish x) []/\Z=G (cB.finish y) []/\VR r x y:=by
 cases k with
 | inside c d=>grind
 | back e f g=>grind
theorem classify (u:sG P h)(v:oV P h e s w)(c:Nat->k9->Nat)(d:Nat):
  (∃o a f,nq P e s w c d= .ended o a f)\/(∃z a f,nq P e s w c d= .go (G {e with mode:= .panicking z} (s ++ [cB])) a f)\/
  (∃i j a b,MI P h e s w c d i j a b)\/ ∃x a b,Sv P e s w c d x a b:=by
 obtain ⟨r,A,B,C⟩:=v;rcases tE (m:=true) (m':=true) (k:= [cB]) (l:= [cB]) u (A.on c c d d) B C ⟨_,_,rfl⟩ ⟨_,_,rfl⟩with n | n | ⟨L,a,f,D,⟨b,M,N,q⟩,E⟩
 ·exact .inl n
 ·exact .inr (.inl n)
 ·obtain ⟨F,O,Q,T,g,H,_,_,I⟩:=E b YP (.refl _ _);rw[D]at g;injection g with g p
  subst g;subst p;rcases I.two with ⟨i,V,j,W,rfl,t,J,K⟩ | ⟨x,y,rfl,t,_⟩
  ·obtain ⟨rfl,rfl⟩:=lA t;exact .inr (.inr (.inl ⟨i,j,a,b,⟨F,H,J,K⟩,q⟩))
  ·exact .inr (.inr (.inr ⟨x,a,b,q⟩))
end
section
open Classical
theorem QL (s:List Frame):s ++ [cB]≠ []:=YR
theorem DS(c:FR P h r e O):e.defers= []/\(∃f,P.funcs[e.fn]? =S f)/\ ∀b,e.raise b={e with mode:= .panicking b}:=by
 cases c with
 | run a _ _=>exact ⟨R,a,λ_=>rfl⟩
 | ret a _ _=>exact ⟨R,a,λ_=>rfl⟩
theorem sT(d:ze P h r s T): ∀b∈s,∃c,FR P h r b c:=by
 induction d with
 | nil=>simp
 | @cons a b s T d _ e=>grind
theorem kA(h:lone e s C=lone O T w):e=O/\s=T/\C=w:=by
 injection h with a b
 grind
end
section
open Classical
section
variable {P:Program}{m:Bool}
structure aq where
 rd:Nat->Prop
 wr:Nat->Prop
 cl:Nat->Nat->Prop
def aq.add (F:aq)(n k:Nat):aq:=⟨λb=>F.rd b\/(n<=b/\b<k),λb=>F.wr b\/(n<=b/\b<k),F.cl⟩
structure aq.le (F H:aq):Prop where
 rd: ∀b,F.rd b->H.rd b
 wr: ∀b,F.wr b->H.wr b
 cl: ∀b i,H.cl b i↔F.cl b i
theorem aq.le_refl (F:aq):F.le F:=⟨λ_ h=>h,λ_ h=>h,λ_ _=>Iff.rfl⟩
variable {F:aq}
theorem aq.le_trans {H I:aq}(h:F.le H)(k:H.le I):F.le I:=⟨λb x=>k.rd b (h.rd b x),λb x=>k.wr b (h.wr b x),λb i=>(k.cl b i).trans (h.cl b i)⟩
theorem aq.nI (F:aq)(n k:Nat):F.le (F.add n k):=⟨λ_ h=> .inl h,λ_ h=> .inl h,λ_ _=>Iff.rfl⟩
structure dD (F:aq)(w w1:World):Prop where
 same: ∀b:Nat,F.rd b->w1.heap[b]? =w.heap[b]?
 size:w.heap.size<=w1.heap.size
 kind: ∀ (b:Nat) c e f,w.heap[b]? =S (.cells c e f)-> ∃c' f',w1.heap[b]? =S (.cells c' e f')
 tape:w1.tape=w.tape
 cell: ∀ (b i:Nat) c e f,F.cl b i->w.heap[b]? =S (.cells c e f)-> ∃c',w1.heap[b]? =S (.cells c' e f)/\c'.size=c.size/\c'[i]? =c[i]?
theorem dD.refl (F:aq)(w:World):dD F w w:=⟨λ_ _=>rfl,n3 _,λ_ c _ f h=>⟨c,f,h⟩,R,λ_ _ c _ _ _ h=>⟨c,h,R,R⟩⟩
theorem dD.trans {F:aq}{a b c:World}(h:dD F a b)(k:dD F b c):dD F a c:=
 ⟨λx d=>(k.same x d).trans (h.same x d),n6 h.size k.size,λx c e f d=>by
  obtain ⟨l,m,g⟩:=h.kind x c e f d;exact k.kind x l e m g,k.tape.trans h.tape,λx i c e f j d=>by
  obtain ⟨n,g,o,p⟩:=h.cell x i c e f j d;obtain ⟨q,r,s,t⟩:=k.cell x i n e f j g;grind⟩
inductive ue (F:aq):x3->Prop
 | extern (f:m9):ue F ⟨.mark (.extern f),false,true⟩
 | room:ue F ⟨.mark .noRoom,false,true⟩
 | obj {x:Nat}:F.rd x->ue F ⟨.obj x,false,false⟩
 | read {a:n5}:F.rd a.block->ue F ⟨.cell a,false,false⟩
 | write {a:n5}:F.wr a.block->ue F ⟨.cell a,true,false⟩
 | put {a:n5}:F.cl a.block a.off->ue F ⟨.cell a,true,false⟩
 | yY {x:Nat}:F.wr x->ue F ⟨.obj x,true,false⟩
structure oH (F:aq)(w w':World)(es:Array x3):Prop where
 same: ∀b:Nat,b<w.heap.size-> ¬F.wr b->(∀i,¬F.cl b i)->w'.heap[b]? =w.heap[b]?
 cell: ∀ (b:Nat) c e f,¬F.wr b->w.heap[b]? =S (.cells c e f)-> ∃c',w'.heap[b]? =S (.cells c' e f)/\c'.size=c.size/\ ∀i,¬F.cl b i->c'[i]? =c[i]?
 size:w.heap.size<=w'.heap.size
 kind: ∀ (b:Nat) c e f,w.heap[b]? =S (.cells c e f)-> ∃c' f',w'.heap[b]? =S (.cells c' e f')
 tape:w'.tape=w.tape
 os:w'.os=w.os
 output:w'.output=w.output
 ev: ∀e∈es,ue (F.add w.heap.size w'.heap.size) e
def Up (g:h8):Prop:=g.status= .running/\g.offers=none
inductive Co (P:j6)(m:Bool)(Stop:aq->h8->World->Prop):aq->h8->World->Prop
 | stop {F:aq} {g:h8} {w:World}:(∀w1,dD F w w1->Stop F g w1)->Co P m Stop F g w
 | step {F:aq} {g:h8} {w:World}:g.status= .running->(∀w1,dD F w w1-> ∃g' w' es,j1 P m g w1= .go g' w' es/\oH F w1 w' es/\Up g')->
   (∀w1 g' w' es,dD F w w1->j1 P m g w1= .go g' w' es->Co P m Stop (F.add w1.heap.size w'.heap.size) g' w')->Co P m Stop F g w
structure FP (r:aU)(v:World)(F:aq):Prop where
 dc: ∀b x:Nat,r[b]? =S (x,.cells)->Dc v b->F.rd x
 wb: ∀b x:Nat,r[b]? =S (x,.cells)->Wb v b->F.wr x
 num: ∀b x:Nat,r[b]? =S (x,.num)->F.rd x
theorem dA.keep{v w1:World}(h:dA r v w)(o:FP r v F)(k:dD F w w1):dA r v w1 where
 size:=h.size
 inj:=h.inj
 low i x l hi hl:=Nat.lt_of_lt_of_le (h.low i x l hi hl) k.size
 et:=h.et
 pos:=⟨h.pos.1,Nat.lt_of_lt_of_le h.pos.2 k.size⟩
 cells b x hb:=by
  obtain ⟨c,e,f,m,n,j,d,g,q⟩:=h.cells b x hb;rcases g with rfl | g
  ·obtain ⟨s,t,u⟩:=k.kind x m e n d;grind
  ·rcases Nat.eq_zero_or_pos c.size with p | p
   ·obtain ⟨s,t,u⟩:=k.kind x m e n d;grind
   ·exact ⟨c,e,f,m,n,j,by rw[k.same x (o.dc b x hb ⟨c,e,f,j,p⟩)];exact d,.inr g,q⟩
 num b x hb:=by obtain ⟨a,y,l,j,d,g⟩:=h.num b x hb;exact ⟨a,y,l,j,by rw[k.same x (o.num b x hb)];exact d,g⟩
theorem FP.tT {d:aU}{e f:World}(g:FP r C F)(i:dA r C w)(c:dA d e f)(k:jf r d C w e f):FP d e (F.add w.heap.size f.heap.size) where
 dc b x a hd:=by
  rcases k.fresh b x _ a with h | h
  ·exact .inl (g.dc b x h ((k.dc b (by have:=dP h;rw[i.size];exact this)).1 hd))
  ·exact .inr ⟨h,c.low b x _ a YQ⟩
 wb b x a hd:=by
  rcases k.fresh b x _ a with h | h
  ·exact .inl (g.wb b x h ((k.wb b (by have:=dP h;rw[i.size];exact this)).1 hd))
  ·exact .inr ⟨h,c.low b x _ a YQ⟩
 num b x a:=by
  rcases k.fresh b x _ a with h | h
  ·exact .inl (g.num b x h)
  ·exact .inr ⟨h,c.low b x _ a YQ⟩
theorem lM {g:aU}{i j:World}(l:FP r C F)(q:dA r C w)(m:dA g i j)(k:jf r g C w i j)(s: ∀e∈I,jd g i e):oH F w j I where
 same b hb hn _:=k.same b hb λx n o=>hn (l.wb x b n o)
 cell b c e f hn h:=⟨c,by rw[k.same b (m5.1 h).1 λx n o=>hn (l.wb x b n o)];exact h,R,λ_ _=>rfl⟩
 size:=k.size
 kind:=k.Aw
 tape:=k.tape
 os:=k.os
 output:=k.output
 ev e h:=by
  have a:=l.tT q m k;cases s e h with
  | extern f=>exact .extern f
  | room=>exact .room
  | obj d=>exact .obj (a.num _ _ d)
  | read d p=>exact .read (a.dc _ _ d p)
  | write d p=>exact .write (a.wb _ _ d p)
end
end
inductive Ak where
 | send (c k:Nat)
 | recv (c k:Nat)
 | close (c:Nat)
 | over (c:Nat)
 deriving DecidableEq
abbrev iR:=Nat->List Ak
def aO (s:iR)(i:Nat)(l:List Ak):iR:=λj=>if j=i then l else s j
theorem cn (s:iR)(i:Nat)(l:List Ak):aO s i l i=l:=by simp[aO]
theorem aD (s:iR){i j:Nat}(l:List Ak)(h:j≠i):aO s i l j=s j:=by simp[aO,h]
theorem cD (s:iR)(h:d≠q)(l m:List Ak):aO (aO s d l) q m=aO (aO s q m) d l:=by
 funext a;by_cases b:a=d
 ·subst b;simp[aO,h]
 ·by_cases c:a=q
  ·subst c;simp[aO,b]
  ·simp[aO,b,c]
def Cl:=Nat->Prop
def mD (C:Cl)(c:Nat):Cl:=λd=>C d\/d=c
inductive AS:iR×Cl->iR×Cl->Prop
 | comm {S:iR} {C:Cl} {i j c k:Nat} {s t:List Ak}:i≠j->S i= .send c k::s->S j= .recv c k::t->AS (S,C) (aO (aO S i s) j t,C)
 | close {S:iR} {C:Cl} {i c:Nat} {s:List Ak}:S i= .close c::s->AS (S,C) (aO S i s,mD C c)
 | over {S:iR} {C:Cl} {j c:Nat} {t:List Ak}:S j= .over c::t->C c->AS (S,C) (aO S j t,C)
def sends (l:List Ak)(c:Nat):Prop:= ∃a∈l,(∃k,a= .send c k)\/a= .close c
def recvs (l:List Ak)(c:Nat):Prop:= ∃a∈l,(∃k,a= .recv c k)\/a= .over c
structure One (S:iR):Prop where
 snd: ∀i j c,sends (S i) c->sends (S j) c->i=j
 rcv: ∀i j c,recvs (S i) c->recvs (S j) c->i=j
variable {D:List Ak}
theorem eh {a:iR}{c k:Nat}(h:a d= .send c k::D):sends (a d) c:=⟨_,YS,.inl ⟨k,R⟩⟩
theorem oh {a:iR}(h:a d= .close q::D):sends (a d) q:=⟨_,YS,.inr R⟩
theorem iL {a:iR}{c k:Nat}(h:a d= .recv c k::D):recvs (a d) c:=⟨_,YS,.inl ⟨k,R⟩⟩
theorem yw {a:iR}(h:a d= .over q::D):recvs (a d) q:=⟨_,YS,.inr R⟩
theorem One.sub {S T:iR}(h:One S)(d: ∀i,∀a∈T i,a∈S i):One T where
 snd i j c:=λ⟨a,e,f⟩ ⟨b,g,k⟩=>h.snd i j c ⟨a,d i a e,f⟩ ⟨b,d j b g,k⟩
 rcv i j c:=λ⟨a,e,f⟩ ⟨b,g,k⟩=>h.rcv i j c ⟨a,d i a e,f⟩ ⟨b,d j b g,k⟩
theorem kP {b:iR}{a:Ak}(h:b d=a::D): ∀j,∀x∈aO b d D j,x∈b j:=by
 intro j x c;by_cases e:j=d
 ·subst e;rw[cn]at c;grind
 ·rwa[aD b D e]at c
variable {Y:iR×Cl}
theorem One.step {x:iR×Cl}(h:One x.1)(k:AS x Y):One Y.1:=by
 cases k with
 | @comm S C i j c k s t d b e=>
  refine (h.sub (kP b)).sub (kP (a:= .recv c k) ?_);skip
  rw[aD S s d.symm];exact e
 | close b=>exact h.sub (kP b)
 | over b _=>exact h.sub (kP b)
theorem Hu {y z:iR×Cl}(h:One Y.1)(J:AS Y y)(F:AS Y z):y=z\/ ∃u,AS y u/\AS z u:=by
 cases J with
 | @comm f C i j c k s t w v E=>
  cases F with
  | @comm _ _ g l r G n o p a q=>
   by_cases b:g=i
   ·subst b;rw[v]at a;injection a with x H
    injection x with x K
    subst x;subst H;subst K;have:=h.rcv l j c (iL q) (iL E);grind
   ·have m:l≠j:=λe=>by
     subst e;rw[E]at q;injection q with x
     injection x with x
     subst x;exact b (h.snd g i c (eh a) (eh v))
    have A:g≠j:=YS;have B:l≠i:=YS;refine .inr ⟨(aO (aO (aO (aO f i s) j t) g n) l o,C),?_,?_⟩
    ·refine .comm (c:=r) (k:=G) p ?_ ?_
     ·rw[aD _ _ A,aD _ _ b];exact a
     ·rw[aD _ _ m,aD _ _ B];exact q
    ·have e:aO (aO (aO (aO f i s) j t) g n) l o=aO (aO (aO (aO f g n) l o) i s) j t:=by rw[cD _ A.symm,cD f (λe=>b e.symm),cD _ (λe=>m e.symm),cD _ (λe=>B e.symm)]
     rw[e];refine .comm (c:=c) (k:=k) w ?_ ?_
     ·rw[aD _ _ (λe=>B e.symm),aD _ _ (λe=>b e.symm)];exact v
     ·rw[aD _ _ (λe=>m e.symm),aD _ _ (λe=>A e.symm)];exact E
  | @close _ _ g r n a=>
   have b:g≠i:=YS;have m:g≠j:=YS;refine .inr ⟨(aO (aO (aO f i s) j t) g n,mD C r),?_,?_⟩
   ·exact .close (by rw[aD _ _ m,aD _ _ b];exact a)
   ·have e:aO (aO (aO f i s) j t) g n=aO (aO (aO f g n) i s) j t:=by rw[cD _ (λe=>m e.symm),cD f (λe=>b e.symm)]
    rw[e];exact .comm w (by rw[aD _ _ (λe=>b e.symm)];exact v) (by rw[aD _ _ (λe=>m e.symm)];exact E)
  | @over _ _ l r o a D=>
   have b:l≠i:=YS;have m:l≠j:=YS;refine .inr ⟨(aO (aO (aO f i s) j t) l o,C),?_,?_⟩
   ·exact .over (by rw[aD _ _ m,aD _ _ b];exact a) D
   ·have e:aO (aO (aO f i s) j t) l o=aO (aO (aO f l o) i s) j t:=by rw[cD _ (λe=>m e.symm),cD f (λe=>b e.symm)]
    rw[e];exact .comm w (by rw[aD _ _ (λe=>b e.symm)];exact v) (by rw[aD _ _ (λe=>m e.symm)];exact E)
 | @close f C i c s v=>
  cases F with
  | @comm _ _ g l r G n o p a q=>
   have b:g≠i:=YS;have m:l≠i:=YS;refine .inr ⟨(aO (aO (aO f i s) g n) l o,mD C c),?_,?_⟩
   ·exact .comm p (by rw[aD _ _ b];exact a) (by rw[aD _ _ m];exact q)
   ·have e:aO (aO (aO f i s) g n) l o=aO (aO (aO f g n) l o) i s:=by rw[cD f (λe=>b e.symm),cD _ (λe=>m e.symm)]
    rw[e];exact .close (by rw[aD _ _ (λe=>m e.symm),aD _ _ (λe=>b e.symm)];exact v)
  | @close _ _ g r n a=>
   by_cases b:g=i
   ·grind
   ·refine .inr ⟨(aO (aO f i s) g n,mD (mD C c) r),?_,?_⟩
    ·exact .close (by rw[aD _ _ b];exact a)
    ·have e:aO (aO f i s) g n=aO (aO f g n) i s:=cD f (λe=>b e.symm) _ _;have H:mD (mD C c) r=mD (mD C r) c:=by funext d;simp only[mD,eq_iff_iff];constructor<;>(grind)
     rw[e,H];exact .close (by rw[aD _ _ (λe=>b e.symm)];exact v)
  | @over _ _ l r o a D=>
   have b:l≠i:=YS;refine .inr ⟨(aO (aO f i s) l o,mD C c),?_,?_⟩
   ·exact .over (by rw[aD _ _ b];exact a) (.inl D)
   ·rw[cD f (λe=>b e.symm)];exact .close (by rw[aD _ _ (λe=>b e.symm)];exact v)
 | @over f C j c t v D=>
  cases F with
  | @comm _ _ g l r G n o p a q=>
   have b:g≠j:=YS;have m:l≠j:=YS;refine .inr ⟨(aO (aO (aO f j t) g n) l o,C),?_,?_⟩
   ·exact .comm p (by rw[aD _ _ b];exact a) (by rw[aD _ _ m];exact q)
   ·have e:aO (aO (aO f j t) g n) l o=aO (aO (aO f g n) l o) j t:=by rw[cD f (λe=>b e.symm),cD _ (λe=>m e.symm)]
    rw[e];exact .over (by rw[aD _ _ (λe=>m e.symm),aD _ _ (λe=>b e.symm)];exact v) D
  | @close _ _ g r n a=>
   have b:g≠j:=YS;refine .inr ⟨(aO (aO f j t) g n,mD C r),?_,?_⟩
   ·exact .close (by rw[aD _ _ b];exact a)
   ·rw[cD f (λe=>b e.symm)];exact .over (by rw[aD _ _ (λe=>b e.symm)];exact v) (.inl D)
  | @over _ _ l r o a I=>
   by_cases m:l=j
   ·grind
   ·refine .inr ⟨(aO (aO f j t) l o,C),.over (by rw[aD _ _ m];exact a) I,?_⟩;rw[cD f (λe=>m e.symm)];exact .over (by rw[aD _ _ (λe=>m e.symm)];exact v) D
inductive eG:iR×Cl->Prop
 | done {x:iR×Cl}:(∀i,x.1 i= [])->eG x
 | step {x y:iR×Cl}:AS x y->eG y->eG x
theorem IC {y:iR×Cl}(h: ∀i,Y.1 i= [])(k:AS Y y):False:=by
 cases k with
 | @comm a C i j c k s t d b e=>grind
 | @close a C i c s b=>grind
 | @over a C j c t b _=>grind
theorem eG.any {y:iR×Cl}(h:eG Y)(a:One Y.1)(k:AS Y y):eG y:=by
 induction h generalizing y with
 | done h=>exact (IC h k).elim
 | step b c d=>
  rcases Hu a b k with rfl | ⟨u,e,f⟩
  ·exact c
  ·exact .step f (d (a.step b) e)
theorem eG.some {x:iR×Cl}(h:eG x):(∀i,x.1 i= [])\/ ∃y,AS x y:=by
 cases h with
 | done h=>grind
 | step h _=>grind
section
open Go.ConcR (KK WgAt stA smA rd wr mk)
inductive Tr where
 | leaf
 | node (f:World->Nat->h7->Tr)
def Tr.lt (x y:Tr):Prop:= ∃f w n v,y= .node f/\x=f w n v
theorem Tr.acc (t:Tr):Acc Tr.lt t:=by
 induction t with
 | leaf=>exact ⟨_,λy ⟨f,_,_,_,h,_⟩=>by cases h⟩
 | node f a=>exact ⟨_,λy ⟨b,w,n,v,h,e⟩=>by simp_all⟩
def Tr.nat:Nat->Tr
 | 0=> .leaf
 | n + 1=> .node λ_ _ _=>Tr.nat n
theorem Tr.bE (f:World->Nat->h7->Tr)(w:World)(n:Nat)(v:h7):Tr.lt (f w n v) (.node f):=⟨f,w,n,v,R,R⟩
structure aq.sub (H F:aq):Prop where
 rd: ∀b,H.rd b->F.rd b
 wr: ∀b,H.wr b->F.wr b
 cl: ∀b i,H.cl b i->F.cl b i\/(F.wr b/\F.rd b)
structure aq.ok (F:aq):Prop where
 wr: ∀b,F.wr b->F.rd b
 cl: ∀b k,F.cl b k-> ¬F.rd b
theorem aq.dG (F:aq):F.sub F:=⟨λ_ h=>h,λ_ h=>h,λ_ _ h=> .inl h⟩
variable {F:aq}
theorem dD.sub {H:aq}(h:dD F w C)(k:H.sub F):dD H w C where
 same b hb:=h.same b (k.rd b hb)
 size:=h.size
 kind:=h.kind
 tape:=h.tape
 cell b i c e f d hb:=by
  rcases k.cl b i d with a | ⟨_,a⟩
  ·exact h.cell b i c e f a hb
  ·exact ⟨c,by rw[h.same b a];exact hb,R,R⟩
structure aq.apart (F H:aq):Prop where
 wr: ∀b,F.wr b-> ¬H.rd b
 PG: ∀b,H.wr b-> ¬F.rd b
 cc: ∀b i,F.cl b i-> ¬H.cl b i
 cl: ∀b i,F.cl b i-> ¬H.rd b
 GW: ∀b i,H.cl b i-> ¬F.rd b
def aq.none:aq:=⟨λ_=>False,λ_=>False,λ_ _=>False⟩
theorem aq.vH (F:aq):aq.none.sub F:=⟨λ_ h=>I2 h,λ_ h=>I2 h,λ_ _ h=>I2 h⟩
structure Sx where
 s:Nat->Prop
 n:Nat
 o:World
instance:CoeFun Sx (λ_=>Nat->Prop):=⟨Sx.s⟩
def Sx.lq (a b:Sx):Prop:=a.n=b.n/\a.o=b.o
def Sx.add (S:Sx)(x:Nat):Sx:=⟨λb=>S b\/b=x,S.n,S.o⟩
def Sx.old (a:Sx)(w:World):Prop:=a.n<=w.heap.size/\(∀b,b<a.n->w.heap[b]? =a.o.heap[b]?)/\w.os=a.o.os/\w.output=a.o.output
theorem Sx.dR {S:Sx}(h:S.old w)(d:w.heap.size<=C.heap.size)(k: ∀b,b<S.n->C.heap[b]? =w.heap[b]?)(a:C.os=w.os/\C.output=w.output):S.old C:=⟨n6 h.1 d,λb c=>(k b c).trans (h.2.1 b c),a.1.trans h.2.2.1,a.2.trans h.2.2.2⟩
def aq.pure (F:aq)(a:Sx):Prop:= ∀b,b<a.n-> ¬F.wr b/\ ∀k,¬F.cl b k
theorem aq.pure.sub {H:aq}{S:Sx}(h:F.pure S)(k:H.sub F):H.pure S:=λb a=>⟨λc=>(h b a).1 (k.wr b c),λi d=>(k.cl b i d).elim ((h b a).2 i) λe=>(h b a).1 e.1⟩
theorem aq.pure.add {F:aq}{S:Sx}(h:F.pure S){n k:Nat}(d:S.n<=n):(F.add n k).pure S:=λb a=>⟨λc=>c.elim (h b a).1 λe=>YP,(h b a).2⟩
def aq.all (n:Nat)(a:Sx):aq:=⟨λb=>b<n/\ ¬a b,λb=>(b<n/\ ¬a b)/\a.n<=b,λ_ _=>False⟩
theorem aq.mX (n:Nat)(a:Sx):(aq.all n a).pure a:=λb c=>⟨λh=>by have:=h.2;omega,λ_ h=>h⟩
structure Env where
 ty:j4
 Wg:Nat
 V:Nat->Nat->h7->Prop
 S:Sx
 on:Prop
def Env.ok (E:Env)(w:World):Prop:=(E.on->WgLive E.ty E.Wg w)/\E.S.old w
structure RK (E:Env)(F:aq)(w w1:World):Prop where
 keep:dD F w w1
 ok:E.ok w1
theorem RK.trans {E:Env}{F:aq}{a b c:World}(h:RK E F a b)(k:RK E F b c):RK E F a c:=⟨h.keep.trans k.keep,k.ok⟩
abbrev bC:=aq->World->Prop
inductive Ph where
 | over
 | work (p:Bool) (pl:List (List Ak)) (s:List Ak)
 | load (b:Nat)
 | wP (v:Nat)
 | gO
 | gD
 | joined
 | tail
 | en
 | eo
 | cu
 | gone
def Ph.late:Ph->Prop
 | .tail | .en | .eo | .cu | .gone=>True
 | _=>False
abbrev ca:=Nat->Option Nat
def ca.put (r:ca)(c b:Nat):ca:=λx=>if x=c then S b else r x
def CL (e:x3):Prop:=(I3 e).touch? =none/\e.loc≠ .mark .disable/\e.loc≠ .mark .enable/\(∀a,e.loc≠ .mark (.release a))/\ ∀n,(I3 e).low n
section
variable (P:Program)(E:Env)(m:Bool)(Sp:ca->Tr->bC->List Ak->aq->Goroutine->World->Prop)(Lg:bC)(End:aq->Goroutine->World->Nat->Prop)
inductive bX:Tr->Nat->ca->List bC->Ph->aq->h8->World->Prop
 | fin {r:ca} {F:aq} {g:h8} {w:World}:(∀w1,RK E F w w1->End F g w1 w1.heap.size)->bX .leaf 0 r [] .over F g w
 | born {r:ca} {F:aq} {g:h8} {w:World} {es:Array x3} {ob:Obj} (gi:Nat->h8):m=true->g.status= .running->(∀x,Up (gi x))->(∀e∈es,CL e)->
   (∀w1,RK E F w w1->j1 P m g w1= .go (gi w1.heap.size) {w1 with heap:=w1.heap.push ob} es)->
   (∀w1,RK E F w w1->End (F.add w1.heap.size (w1.heap.size + 1)) (gi w1.heap.size) {w1 with heap:=w1.heap.push ob} w1.heap.size)->bX .leaf 0 r [] .over F g w
 | step {f:World->Nat->h7->Tr} {r:ca} {d:Nat} {lg:List bC} {ph:Ph} {F:aq} {g:h8} {w:World} (F1:World->aq):g.status= .running-> ¬ph.late->
   (∀w1,RK E F w w1-> ∃g' w' es,j1 P m g w1= .go g' w' es/\oH F w1 w' es/\Up g'/\(F1 w1).sub (F.add w1.heap.size w'.heap.size)/\(F1 w1).ok)->
   (∀w1 g' w' es,RK E F w w1->j1 P m g w1= .go g' w' es->bX (f w1 0 U) d r lg ph (F1 w1) g' w')->bX (.node f) d r lg ph F g w
 | mute {f:World->Nat->h7->Tr} {r:ca} {d:Nat} {lg:List bC} {ph:Ph} {F:aq} {g:h8} {w:World} (g':World->h8):ph≠ .gone->g.status= .running->(∀w1,RK E F w w1->Up (g' w1))->
   (∀w1,RK E F w w1->j1 P m g w1= .go (g' w1) w1 #[])->(∀w1,RK E F w w1->bX (f w1 0 U) d r lg ph F (g' w1) w1)->bX (.node f) d r lg ph F g w
 | disable {f:World->Nat->h7->Tr} {r:ca} {d:Nat} {lg:List bC} {ph:Ph} {F:aq} {g g':h8} {w:World}:ph≠ .gone->g.status= .running->Up g'->
   (∀w1,RK E F w w1->j1 P m g w1= .go g' w1 #[mk .disable])->(∀w1,RK E F w w1->bX (f w1 0 U) (d + 1) r lg ph F g' w1)->bX (.node f) d r lg ph F g w
 | enable {f:World->Nat->h7->Tr} {r:ca} {d:Nat} {lg:List bC} {ph:Ph} {F:aq} {g g':h8} {w:World}:ph≠ .gone->g.status= .running->Up g'->
   (∀w1,RK E F w w1->j1 P m g w1= .go g' w1 #[mk .enable])->(∀w1,RK E F w w1->bX (f w1 0 U) d r lg ph F g' w1)->bX (.node f) (d + 1) r lg ph F g w
 | said {f:World->Nat->h7->Tr} {r:ca} {d:Nat} {lg:List bC} {ph:Ph} {F:aq} {g g':h8} {w:World} {e:x3}:ph≠ .gone->m=true->E.on->e=mk (.read (smA E.Wg))\/e=mk (.write (smA E.Wg))->g.status= .running->Up g'->
   (∀w1,RK E F w w1->j1 P m g w1= .go g' w1 #[e])->(∀w1,RK E F w w1->bX (f w1 0 U) d r lg ph F g' w1)->bX (.node f) d r lg ph F g w
 | make {f:World->Nat->h7->Tr} {r:ca} {d:Nat} {lg:List bC} {c:Nat} {p:Bool} {pl:List (List Ak)} {s:List Ak} {F:aq} {g:h8} {w:World} {es:Array x3} (gi:Nat->h8):m=true->r c= .none->g.status= .running->(∀x,Up (gi x))->(∀e∈es,CL e)->
   (∀w1,RK E F w w1->j1 P m g w1= .go (gi w1.heap.size) {w1 with heap:=w1.heap.push (.chan 0 #[] false 0 0 false)} es)->
   (∀ (w1 w2:World)(x:Nat),RK E F w w1->RK E F w1 w2->x=w1.heap.size->x<w2.heap.size->bX (f w2 x U) d (r.put c x) lg (.work p pl s) F (gi x) w2)->bX (.node f) d r lg (.work p pl s) F g w
 | inc {f:World->Nat->h7->Tr} {r:ca} {d:Nat} {lg:List bC} {sc:List Ak} {pl:List (List Ak)} {s:List Ak} {F:aq} {g:h8} {w:World} (gi:Nat->h8):m=true->E.on->g.status= .running->(∀v,Up (gi v))->0<d->
   (∀ (w1:World)(v:Nat),RK E F w w1->v<2147483647->WgAt E.ty E.Wg w1 (v * KK) 0->j1 P m g w1= .go (gi v) (w1.setCell (stA E.Wg) (.int .u64 ((v + 1) * KK))) #[rd (stA E.Wg),wr (stA E.Wg)])->
   (∀ (w1:World)(v:Nat),RK E F w w1->v<2147483647->bX (f w1 v U) d r lg (.work true (sc::pl) s) F (gi v) w1)->bX (.node f) d r lg (.work false (sc::pl) s) F g w
 | spawn {f:World->Nat->h7->Tr} {r:ca} {lg:List bC} {sc:List Ak} {pl:List (List Ak)} {s:List Ak} {F:aq} {g:h8} {w:World} (L:bC) (Fc F1:World->aq):m=true->E.on->g.status= .running->
   (∀F w w1,dD F w w1->L F w->L F w1)->
   (∀w1,RK E F w w1-> ∃g' c,j1 P m g w1= .spawn g' c w1 #[]/\Up g'/\Up c/\(Fc w1).sub F/\(F1 w1).sub F/\(Fc w1).apart (F1 w1)/\(Fc w1).ok/\(F1 w1).ok)->
   (∀w1 g' c,RK E F w w1->j1 P m g w1= .spawn g' c w1 #[]->Sp r (f w1 0 U) L sc (Fc w1) c w1)->
   (∀w1 g' c,RK E F w w1->j1 P m g w1= .spawn g' c w1 #[]->bX (f w1 1 U) 0 r (lg ++ [L]) (.work false pl s) (F1 w1) g' w1)->bX (.node f) 0 r lg (.work true (sc::pl) s) F g w
 | send {f:World->Nat->h7->Tr} {r:ca} {d:Nat} {lg:List bC} {c k:Nat} {s:List Ak} {F:aq} {g:h8} {w:World} {v z:h7} {x:Nat}:r c=S x->g.status= .running->g.offers= .none->E.V c k v->
   (∀w1,RK E F w w1->j1 P m g w1= .comm g #[scase x v z] true .send w1 #[])->
   (∀w1,RK E F w w1->bX (f w1 0 U) d r lg (.work false [] s) F (l4 g U) w1)->bX (.node f) d r lg (.work false [] (.send c k::s)) F g w
 | recv {f:World->Nat->h7->Tr} {r:ca} {d:Nat} {lg:List bC} {c k:Nat} {s:List Ak} {F:aq} {g:h8} {w:World} {q:Bool} {z:h7} {x:Nat}:r c=S x->g.status= .running->g.offers= .none->
   (∀w1,RK E F w w1->j1 P m g w1= .comm g #[rcase x z] true (.recv q) w1 #[])->
   (∀w1 v,RK E F w w1->E.V c k v->bX (f w1 0 v) d r lg (.work false [] s) F (l4 g (I4 q v true)) w1)->bX (.node f) d r lg (.work false [] (.recv c k::s)) F g w
 | shut {f:World->Nat->h7->Tr} {r:ca} {d:Nat} {lg:List bC} {c:Nat} {s:List Ak} {F:aq} {g:h8} {w:World} {q:Bool} {z:h7} {x:Nat}:r c=S x->g.status= .running->g.offers= .none->
   (∀w1,RK E F w w1->j1 P m g w1= .comm g #[rcase x z] true (.recv q) w1 #[])->
   (∀w1,RK E F w w1->bX (f w1 0 U) d r lg (.work false [] s) F (l4 g (I4 q z false)) w1)->bX (.node f) d r lg (.work false [] (.over c::s)) F g w
 | close {f:World->Nat->h7->Tr} {r:ca} {lg:List bC} {c:Nat} {s:List Ak} {F:aq} {g g':h8} {w:World} {es:Array x3} {x:Nat}:r c=S x->g.status= .running->Up g'->G8 P g=true->es= #[⟨.obj x,false,true⟩,⟨.obj x,true,true⟩]->
   (∀w1 cap buf a b tm,RK E F w w1->w1.heap[x]? =S (.chan cap buf false a b tm)->j1 P m g w1= .go g' {w1 with heap:=w1.heap.setIfInBounds x (.chan cap buf true a b tm)} es)->
   (∀w1,RK E F w w1->bX (f w1 0 U) 0 r lg (.work false [] s) F g' w1)->bX (.node f) 0 r lg (.work false [] (.close c::s)) F g w
 | wait {f:World->Nat->h7->Tr} {r:ca} {d:Nat} {lg:List bC} {F:aq} {g:h8} {w:World}:m=true->E.on->g.status= .running->(∀ (w1:World)(b:Nat),RK E F w w1->bX (f w1 b U) d r lg (.load b) F g w1)->bX (.node f) d r lg (.work false [] []) F g w
 | sy {f:World->Nat->h7->Tr} {r:ca} {d b:Nat} {lg:List bC} {F:aq} {g:h8} {w:World} (gl:Nat->h8):E.on->g.status= .running->(∀v,Up (gl v))->0<d->
   (∀ (w1:World)(v:Nat),RK E F w w1->v<=b->v<2147483648->WgAt E.ty E.Wg w1 (v * KK) 0->j1 P m g w1= .go (gl v) w1 #[rd (stA E.Wg)])->
   (∀w1,RK E F w w1->bX (f w1 0 U) d r lg .joined F (gl 0) w1)->(∀ (w1:World)(v:Nat),RK E F w w1->0<v->v<=b->v<2147483648->bX (f w1 v U) d r lg (.wP v) F (gl v) w1)->bX (.node f) d r lg (.load b) F g w
 | Ct {f:World->Nat->h7->Tr} {r:ca} {d vs:Nat} {lg:List bC} {F:aq} {g gh gm:h8} {w:World}:E.on->g.status= .running->Up gh->Up gm->0<d->
   (∀w1,RK E F w w1->WgAt E.ty E.Wg w1 (vs * KK) 0->j1 P m g w1= .go gh (w1.setCell (stA E.Wg) (.int .u64 (vs * KK + 1))) #[rd (stA E.Wg),wr (stA E.Wg)])->
   (∀ (w1:World)(v:Nat),RK E F w w1->v<vs->WgAt E.ty E.Wg w1 (v * KK) 0->j1 P m g w1= .go gm w1 #[rd (stA E.Wg)])->
   (∀w1,RK E F w w1->bX (f w1 0 U) d r lg .gO F gh w1)->(∀ (w1:World)(v:Nat),RK E F w w1->v<vs->bX (f w1 (v + 1) U) d r lg (.load v) F gm w1)->bX (.node f) d r lg (.wP vs) F g w
 | Cu {f:World->Nat->h7->Tr} {r:ca} {d:Nat} {lg:List bC} {F:aq} {g g':h8} {w:World}:E.on->g.status= .running->g.offers= .none->Up g'->
   (∀w1 st,RK E F w w1->WgAt E.ty E.Wg w1 st 0->j1 P m g w1= .go {g with status:= .blocked} w1 #[])->
   (∀w1,RK E F w w1->WgAt E.ty E.Wg w1 0 1->j1 P m g w1= .go g' (w1.setCell (smA E.Wg) (.int .u32 0)) (J6 (smA E.Wg)))->
   (∀w1,RK E F w w1->bX (f w1 0 U) d r lg .gD F g' w1)->bX (.node f) d r lg .gO F g w
 | nX {f:World->Nat->h7->Tr} {r:ca} {d:Nat} {lg:List bC} {F:aq} {g g':h8} {w:World}:E.on->g.status= .running->Up g'->0<d->
   (∀w1,RK E F w w1->WgAt E.ty E.Wg w1 0 0->j1 P m g w1= .go g' w1 #[rd (stA E.Wg)])->
   (∀w1,RK E F w w1->bX (f w1 0 U) d r lg .joined F g' w1)->bX (.node f) d r lg .gD F g w
 | acq {r:ca} {lg:List bC} {F:aq} {g g':h8} {w:World}:E.on->g.status= .running->Up g'->
   (∀w1,RK E F w w1->j1 P m g w1= .go g' w1 #[mk (.acquire (stA E.Wg))])->
   (∀w1,RK E F w w1->(∀ (i:Nat)(L:bC),lg[i]? =S L-> ∃H,L H w1)->End (.all w1.heap.size E.S) g' w1 w1.heap.size)->bX .leaf 0 r lg .joined F g w
 | BY {f:World->Nat->h7->Tr} {r:ca} {lg:List bC} {F:aq} {g g':h8} {w:World}:m=false->E.on->g.status= .running->Up g'->(∀w1,RK E F w w1->Lg F w1)->
   (∀w1,RK E F w w1->j1 P m g w1= .go g' w1 #[mk (.releaseMerge (stA E.Wg))])->
   (∀w1,RK E .none w w1->bX (f w1 0 U) 0 r lg .tail .none g' w1)->bX (.node f) 0 r lg (.work false [] []) F g w
 | dec {f:World->Nat->h7->Tr} {r:ca} {d:Nat} {lg:List bC} {F:aq} {g:h8} {w:World} (gd:Nat->Nat->h8):E.on->g.status= .running->Up (gd 0 1)->0<d->
   (∀ (w1:World)(v wt:Nat),RK E F w w1->wt<=1->v<2147483647->WgAt E.ty E.Wg w1 ((v + 1) * KK + wt) 0->j1 P m g w1= .go (gd v wt) (w1.setCell (stA E.Wg) (.int .u64 (v * KK + wt))) #[rd (stA E.Wg),wr (stA E.Wg)])->
   (∀w1,RK E F w w1->bX (f w1 0 U) d r lg .en F (gd 0 1) w1)->
   (∀ (w1:World)(v wt:Nat),RK E F w w1->wt<=1->v<2147483647-> ¬ (v=0/\wt=1)->bX (f w1 (2 * v + wt + 1) U) d r lg .gone F (gd v wt) w1)->bX (.node f) d r lg .tail F g w
 | en {f:World->Nat->h7->Tr} {r:ca} {d:Nat} {lg:List bC} {F:aq} {g g':h8} {w:World}:E.on->g.status= .running->Up g'->0<d->
   (∀w1,RK E F w w1->WgAt E.ty E.Wg w1 1 0->j1 P m g w1= .go g' w1 #[rd (stA E.Wg)])->
   (∀w1,RK E F w w1->bX (f w1 0 U) d r lg .eo F g' w1)->bX (.node f) d r lg .en F g w
 | eo {f:World->Nat->h7->Tr} {r:ca} {d:Nat} {lg:List bC} {F:aq} {g g':h8} {w:World}:E.on->g.status= .running->Up g'->0<d->
   (∀w1,RK E F w w1->WgAt E.ty E.Wg w1 1 0->j1 P m g w1= .go g' (w1.setCell (stA E.Wg) (.int .u64 0)) #[wr (stA E.Wg)])->
   (∀w1,RK E F w w1->bX (f w1 0 U) d r lg .cu F g' w1)->bX (.node f) d r lg .eo F g w
 | cu {f:World->Nat->h7->Tr} {r:ca} {d:Nat} {lg:List bC} {F:aq} {g g':h8} {w:World}:E.on->g.status= .running->G8 P g=true->
   (∀w1,RK E F w w1->WgAt E.ty E.Wg w1 0 0->j1 P m g w1= .go g' (w1.setCell (smA E.Wg) (.int .u32 1)) (J6 (smA E.Wg)))->
   (∀w1,RK E F w w1->bX (f w1 0 U) d r lg .gone F g' w1)->bX (.node f) d r lg .cu F g w
 | leave {r:ca} {q d:Nat} {lg:List bC} {F:aq} {g:h8} {w:World}:QuitsD P q d g->bX (.nat q) d r lg .gone F g w
end
section
variable {Sp:ca->Tr->bC->List Ak->aq->Goroutine->World->Prop}{End:aq->Goroutine->World->Nat->Prop}
variable {E:Env}{c:List bC}{f:bC}{g:ca}{u:Ph}
theorem bX.rely {T:Tr}(h:bX P E m Sp f End T d g c u F j w)(k:RK E F w C):bX P E m Sp f End T d g c u F j C:=by
 cases h with
 | fin h=>exact .fin λe l=>h e (k.trans l)
 | born z s n l o p r=>exact .born z s n l o (λe i=>p e (k.trans i)) λe i=>r e (k.trans i)
 | step A n l o p=>exact .step A n l (λe i=>o e (k.trans i)) λe t M N i=>p e t M N (k.trans i)
 | mute t q n l o p=>exact .mute t q n (λe i=>l e (k.trans i)) (λe i=>o e (k.trans i)) λe i=>p e (k.trans i)
 | disable q n l o p=>exact .disable q n l (λe i=>o e (k.trans i)) λe i=>p e (k.trans i)
 | enable q n l o p=>exact .enable q n l (λe i=>o e (k.trans i)) λe i=>p e (k.trans i)
 | said B q D O n l o p=>exact .said B q D O n l (λe i=>o e (k.trans i)) λe i=>p e (k.trans i)
 | make z s q n l o p r=>exact .make z s q n l o (λe i=>p e (k.trans i)) λe Q x i=>r e Q x (k.trans i)
 | inc z s q n l o p r=>exact .inc z s q n l o (λe v i=>p e v (k.trans i)) λe v i=>r e v (k.trans i)
 | spawn L V A s q n l o p r=>exact .spawn L V A s q n l (λe i=>o e (k.trans i)) (λe t G i=>p e t G (k.trans i)) λe t G i=>r e t G (k.trans i)
 | send q n l o p r=>exact .send q n l o (λe i=>p e (k.trans i)) λe i=>r e (k.trans i)
 | recv q n l o p=>exact .recv q n l (λe i=>o e (k.trans i)) λe v i=>p e v (k.trans i)
 | shut q n l o p=>exact .shut q n l (λe i=>o e (k.trans i)) λe i=>p e (k.trans i)
 | close q n l o p r y=>exact .close q n l o p (λe H I a b W i=>r e H I a b W (k.trans i)) λe i=>y e (k.trans i)
 | wait s q n l=>exact .wait s q n λe b i=>l e b (k.trans i)
 | sy X q n l o p r y=>exact .sy X q n l o (λe v i=>p e v (k.trans i)) (λe i=>r e (k.trans i)) λe v i=>y e v (k.trans i)
 | Ct q n l o p r y Y Z=>exact .Ct q n l o p (λe i=>r e (k.trans i)) (λe v i=>y e v (k.trans i)) (λe i=>Y e (k.trans i)) λe v i=>Z e v (k.trans i)
 | Cu q n l o p r y=>exact .Cu q n l o (λe st i=>p e st (k.trans i)) (λe i=>r e (k.trans i)) λe i=>y e (k.trans i)
 | nX q n l o p r=>exact .nX q n l o (λe i=>p e (k.trans i)) λe i=>r e (k.trans i)
 | acq q n l o p=>exact .acq q n l (λe i=>o e (k.trans i)) λe i=>p e (k.trans i)
 | BY s q n l o p r=>exact .BY s q n l (λe i=>o e (k.trans i)) (λe i=>p e (k.trans i)) λe i=>r e ((RK.mk (k.keep.sub (aq.vH _)) k.ok).trans i)
 | dec gd q n J l o p r=>exact .dec gd q n J l (λe v K i=>o e v K (k.trans i)) (λe i=>p e (k.trans i)) λe v K i=>r e v K (k.trans i)
 | en q n l o p r=>exact .en q n l o (λe i=>p e (k.trans i)) λe i=>r e (k.trans i)
 | eo q n l o p r=>exact .eo q n l o (λe i=>p e (k.trans i)) λe i=>r e (k.trans i)
 | cu q n l o p=>exact .cu q n l (λe i=>o e (k.trans i)) λe i=>p e (k.trans i)
 | leave h=>exact .leave h
end
end
section
open Classical
open Go.ConcR (KK WgAt stA smA rd wr mk)
noncomputable def pick (p:World->Nat->h7->Tr->Prop):World->Nat->h7->Tr:=λw n v=>if h: ∃T,p w n v T then m2 h else .leaf
theorem aY {p:World->Nat->h7->Tr->Prop}{n:Nat}{v:h7}(h: ∃T,p w n v T):p w n v (pick p w n v):=by unfold pick;grind
section
variable (P:Program)(E:Env)(m:Bool)(Sp:ca->Tr->bC->List Ak->aq->Goroutine->World->Prop)(Lg:bC)(End:aq->Goroutine->World->Nat->Prop)
def aa (d:Nat)(r:ca)(lg:List bC)(ph:Ph)(F:aq)(g:h8)(w:World):Prop:= ∃T,bX P E m Sp Lg End T d r lg ph F g w
end
section
variable {E:Env}{Sp:ca->Tr->bC->List Ak->aq->Goroutine->World->Prop}{Lg:bC}{End:aq->Goroutine->World->Nat->Prop}{r:ca}{lg:List bC}{F:aq}{g g':Goroutine}{w:World}{es:Array Event}{k x:Nat}{v:Value}
variable {E:Env}{F:aq}{a:ca->Tr->bC->List Ak->aq->Goroutine->World->Prop}{b:aq->Goroutine->World->Nat->Prop}{c:List bC}{f:bC}{u:Ph}
theorem aa.rely {e:World}(h:aa P E m a f b d r c u F j w)(g:RK E F w e):aa P E m a f b d r c u F j e:=h.imp λ_ h=>h.rely g
theorem aa.fin (h: ∀c,RK E F w c->b F j c c.heap.size):aa P E m a f b 0 r [] .over F j w:=⟨_,.fin h⟩
theorem aa.step (i:World->aq)(l:j.status= .running)(n: ¬u.late)(o: ∀g,RK E F w g-> ∃Z h es,j1 P m j g= .go Z h es/\oH F g h es/\Up Z/\(i g).sub (F.add g.heap.size h.heap.size)/\(i g).ok)
  (q: ∀g Z h es,RK E F w g->j1 P m j g= .go Z h es->aa P E m a Lg b d r c u (i g) Z h):aa P E m a Lg b d r c u F j w:=
 ⟨_,.step (f:=pick λg _ _ T=> ∀Z h es,j1 P m j g= .go Z h es->bX P E m a Lg b T d r c u (i g) Z h) i l n o λg Z h es k e=>by obtain ⟨T,t⟩:=q g Z h es k e;refine aY (p:=λg _ _ T=> ∀Z h es,j1 P m j g= .go Z h es->bX P E m a Lg b T d r c u (i g) Z h) ⟨T,λv x s y=> ?_⟩ Z h es e;grind⟩
theorem aa.mute (g:World->h8)(h:u≠ .gone)(i:j.status= .running)(k: ∀e,RK E F w e->Up (g e))(l: ∀e,RK E F w e->j1 P m j e= .go (g e) e #[])(n: ∀e,RK E F w e->aa P E m a Lg b d r c u F (g e) e):aa P E m a Lg b d r c u F j w:=
 ⟨_,.mute (f:=pick λe _ _ T=>bX P E m a Lg b T d r c u F (g e) e) g h i k l λe q=>aY (p:=λe _ _ T=>bX P E m a Lg b T d r c u F (g e) e) (n e q)⟩
theorem aa.disable (g:u≠ .gone)(h:j.status= .running)(i:Up Z)(k: ∀e,RK E F w e->j1 P m j e= .go Z e #[l8 .disable])(l: ∀e,RK E F w e->aa P E m a Lg b (d + 1) r c u F Z e):aa P E m a Lg b d r c u F j w:=
 ⟨_,.disable (f:=pick λe _ _ T=>bX P E m a Lg b T (d + 1) r c u F Z e) g h i k λe q=>aY (p:=λe _ _ T=>bX P E m a Lg b T (d + 1) r c u F Z e) (l e q)⟩
theorem aa.enable (g:u≠ .gone)(h:j.status= .running)(i:Up Z)(k: ∀e,RK E F w e->j1 P m j e= .go Z e #[l8 .enable])(l: ∀e,RK E F w e->aa P E m a Lg b d r c u F Z e):aa P E m a Lg b (d + 1) r c u F j w:=
 ⟨_,.enable (f:=pick λe _ _ T=>bX P E m a Lg b T d r c u F Z e) g h i k λe q=>aY (p:=λe _ _ T=>bX P E m a Lg b T d r c u F Z e) (l e q)⟩
theorem aa.said {e:x3}(i:u≠ .gone)(k:m=true)(l:E.on)(n:e=l8 (.read (smA E.Wg))\/e=l8 (.write (smA E.Wg)))(o:g.status= .running)(s:Up j)(t: ∀h,RK E F w h->j1 P m g h= .go j h #[e])(v: ∀h,RK E F w h->aa P E m a Lg b d r c u F j h):aa P E m a Lg b d r c u F g w:=
 ⟨_,.said (f:=pick λh _ _ T=>bX P E m a Lg b T d r c u F j h) i k l n o s t λh q=>aY (p:=λh _ _ T=>bX P E m a Lg b T d r c u F j h) (v h q)⟩
theorem aa.make {p:Bool}{i:List (List Ak)}(h:Nat->h8)(k:m=true)(l:r q=none)(n:j.status= .running)(o: ∀x,Up (h x))(s: ∀e∈es,CL e)(t: ∀c,RK E F w c->j1 P m j c= .go (h c.heap.size) {c with heap:=c.heap.push (.chan 0 #[] false 0 0 false)} es)
  (u: ∀ (c g:World)(x:Nat),RK E F w c->RK E F c g->x=c.heap.size->x<g.heap.size->aa P E m a Lg b d (r.put q x) lg (.work p i D) F (h x) g):aa P E m a Lg b d r lg (.work p i D) F j w:=
 ⟨_,.make (f:=pick λg x _ T=>bX P E m a Lg b T d (r.put q x) lg (.work p i D) F (h x) g) h k l n o s t λc g x v y z A=>aY (p:=λg x _ T=>bX P E m a Lg b T d (r.put q x) lg (.work p i D) F (h x) g) (u c g x v y z A)⟩
theorem aa.inc {h:List Ak}{i:List (List Ak)}(g:Nat->h8)(k:m=true)(l:E.on)(n:j.status= .running)(o: ∀z,Up (g z))(s:0<d)
  (t: ∀ (e:World)(z:Nat),RK E F w e->z<2147483647->WgAt E.ty E.Wg e (z * KK) 0->j1 P m j e= .go (g z) (e.setCell (stA E.Wg) (.int .u64 ((z + 1) * KK))) #[p9 (stA E.Wg),B0 (stA E.Wg)])
  (u: ∀ (e:World)(z:Nat),RK E F w e->z<2147483647->aa P E m a Lg b d r c (.work true (h::i) D) F (g z) e):aa P E m a Lg b d r c (.work false (h::i) D) F j w:=
 ⟨_,.inc (f:=pick λe z _ T=>bX P E m a Lg b T d r c (.work true (h::i) D) F (g z) e) g k l n o s t λe z q v=>aY (p:=λe z _ T=>bX P E m a Lg b T d r c (.work true (h::i) D) F (g z) e) (u e z q v)⟩
theorem aa.spawn {l:List Ak}{o:List (List Ak)}(L:bC)(g h:World->aq)(s:m=true)(t:E.on)(u:j.status= .running)(v: ∀F w c,dD F w c->L F w->L F c)
  (x: ∀c,RK E F w c-> ∃Z d,stepG P m j c= .spawn Z d c #[]/\Up Z/\Up d/\(g c).sub F/\(h c).sub F/\(g c).apart (h c)/\(g c).ok/\(h c).ok)
  (y: ∀c Z d,RK E F w c->stepG P m j c= .spawn Z d c #[]-> ∃T,a r T L l (g c) d c)(z: ∀c Z d,RK E F w c->stepG P m j c= .spawn Z d c #[]->aa P E m a Lg b 0 r (lg ++ [L]) (.work false o D) (h c) Z c):aa P E m a Lg b 0 r lg (.work true (l::o) D) F j w:=by
 let p:World->Nat->h7->Tr->Prop:=λc n _ T=>if n=0 then ∀Z d,stepG P m j c= .spawn Z d c #[]->a r T L l (g c) d c else ∀Z d,stepG P m j c= .spawn Z d c #[]->bX P E m a Lg b T 0 r (lg ++ [L]) (.work false o D) (h c) Z c
 have A: ∀c Z d,RK E F w c->stepG P m j c= .spawn Z d c #[]->p c 0 U (pick p c 0 U):=λc Z d k e=>by
  refine aY ?_;obtain ⟨T,q⟩:=y c Z d k e;refine ⟨T,?_⟩;show if (0:Nat)=0 then _ else _
  rw[if_pos R];intro B C i;rw[e]at i;cases i;exact q
 have G: ∀c Z d,RK E F w c->stepG P m j c= .spawn Z d c #[]->p c 1 U (pick p c 1 U):=λc Z d k e=>by
  refine aY ?_;obtain ⟨T,q⟩:=z c Z d k e;refine ⟨T,?_⟩;show if (1:Nat)=0 then _ else _
  rw[if_neg YQ];intro B C i;rw[e]at i;cases i;exact q
 refine ⟨_,.spawn (f:=pick p) L g h s t u v x (λc Z d k e=> ?_) λc Z d k e=> ?_⟩
 ·have:=A c Z d k e;change (if (0:Nat)=0 then _ else _)at this;rw[if_pos R]at this;exact this Z d e
 grind
theorem aa.send (e:r q=S x)(g:j.status= .running)(h:j.offers=none)(i:E.V q k X)(l: ∀c,RK E F w c->j1 P m j c= .comm j #[scase x X z] true .send c #[])(n: ∀c,RK E F w c->aa P E m a Lg b d r lg (.work false [] D) F (l4 j U) c):aa P E m a Lg b d r lg (.work false [] (.send q k::D)) F j w:=
 ⟨_,.send (f:=pick λc _ _ T=>bX P E m a Lg b T d r lg (.work false [] D) F (l4 j U) c) e g h i l λc k=>aY (p:=λc _ _ T=>bX P E m a Lg b T d r lg (.work false [] D) F (l4 j U) c) (n c k)⟩
theorem aa.recv {e:Bool}(g:r q=S x)(h:j.status= .running)(i:j.offers=none)(l: ∀c,RK E F w c->j1 P m j c= .comm j #[rcase x z] true (.recv e) c #[])(n: ∀c X,RK E F w c->E.V q k X->aa P E m a Lg b d r lg (.work false [] D) F (l4 j (I4 e X true)) c):aa P E m a Lg b d r lg (.work false [] (.recv q k::D)) F j w:=
 ⟨_,.recv (f:=pick λc _ X T=>bX P E m a Lg b T d r lg (.work false [] D) F (l4 j (I4 e X true)) c) g h i l λc X k o=>aY (p:=λc _ X T=>bX P E m a Lg b T d r lg (.work false [] D) F (l4 j (I4 e X true)) c) (n c X k o)⟩
theorem aa.shut {e:Bool}(g:r q=S x)(h:j.status= .running)(i:j.offers=none)(l: ∀c,RK E F w c->j1 P m j c= .comm j #[rcase x z] true (.recv e) c #[])(n: ∀c,RK E F w c->aa P E m a Lg b d r lg (.work false [] D) F (l4 j (I4 e z false)) c):aa P E m a Lg b d r lg (.work false [] (.over q::D)) F j w:=
 ⟨_,.shut (f:=pick λc _ _ T=>bX P E m a Lg b T d r lg (.work false [] D) F (l4 j (I4 e z false)) c) g h i l λc k=>aY (p:=λc _ _ T=>bX P E m a Lg b T d r lg (.work false [] D) F (l4 j (I4 e z false)) c) (n c k)⟩
theorem aa.close (i:r d=S q)(l:j.status= .running)(n:Up g')(o:G8 P j=true)(s:I= #[⟨.obj q,false,true⟩,⟨.obj q,true,true⟩])(t: ∀c e g a b h,RK E F w c->c.heap[q]? =S (.chan e g false a b h)->j1 P m j c= .go g' {c with heap:=c.heap.setIfInBounds q (.chan e g true a b h)} I)
  (u: ∀c,RK E F w c->aa P E m Sp Lg End 0 r lg (.work false [] D) F g' c):aa P E m Sp Lg End 0 r lg (.work false [] (.close d::D)) F j w:=
 ⟨_,.close (f:=pick λc _ _ T=>bX P E m Sp Lg End T 0 r lg (.work false [] D) F g' c) i l n o s t λc k=>aY (p:=λc _ _ T=>bX P E m Sp Lg End T 0 r lg (.work false [] D) F g' c) (u c k)⟩
theorem aa.wait (g:m=true)(h:E.on)(i:j.status= .running)(k: ∀ (a:World)(e:Nat),RK E F w a->aa P E m Sp Lg b d r c (.load e) F j a):aa P E m Sp Lg b d r c (.work false [] []) F j w:=
 ⟨_,.wait (f:=pick λa e _ T=>bX P E m Sp Lg b T d r c (.load e) F j a) g h i λa e q=>aY (p:=λa e _ T=>bX P E m Sp Lg b T d r c (.load e) F j a) (k a e q)⟩
theorem aa.sy {h:Nat}(g:Nat->h8)(i:E.on)(k:j.status= .running)(l: ∀z,Up (g z))(o:0<d)(s: ∀ (e:World)(z:Nat),RK E F w e->z<=h->z<2147483648->WgAt E.ty E.Wg e (z * KK) 0->j1 P m j e= .go (g z) e #[p9 (stA E.Wg)])
  (t: ∀e,RK E F w e->aa P E m a Lg b d r c .joined F (g 0) e)(u: ∀ (e:World)(z:Nat),RK E F w e->0<z->z<=h->z<2147483648->aa P E m a Lg b d r c (.wP z) F (g z) e):aa P E m a Lg b d r c (.load h) F j w:=by
 let p:World->Nat->h7->Tr->Prop:=λe n _ T=>match n with
  | 0=>bX P E m a Lg b T d r c .joined F (g 0) e
  | n + 1=>bX P E m a Lg b T d r c (.wP (n + 1)) F (g (n + 1)) e
 refine ⟨_,.sy (f:=pick p) g i k l o s (λe q=>aY (p:=p) (n:=0) (t e q)) λe z q v x y=> ?_⟩;cases z with
 | zero=>omega
 | succ z=>exact aY (p:=p) (n:=z + 1) (u e (z + 1) q v x y)
theorem aa.Ct {g:Nat}{gh gm:h8}(h:E.on)(i:j.status= .running)(k:Up gh)(l:Up gm)(o:0<d)(s: ∀e,RK E F w e->WgAt E.ty E.Wg e (g * KK) 0->j1 P m j e= .go gh (e.setCell (stA E.Wg) (.int .u64 (g * KK + 1))) #[p9 (stA E.Wg),B0 (stA E.Wg)])
  (t: ∀ (e:World)(z:Nat),RK E F w e->z<g->WgAt E.ty E.Wg e (z * KK) 0->j1 P m j e= .go gm e #[p9 (stA E.Wg)])(u: ∀e,RK E F w e->aa P E m a Lg b d r c .gO F gh e)(v: ∀ (e:World)(z:Nat),RK E F w e->z<g->aa P E m a Lg b d r c (.load z) F gm e):aa P E m a Lg b d r c (.wP g) F j w:=by
 let p:World->Nat->h7->Tr->Prop:=λe n _ T=>match n with
  | 0=>bX P E m a Lg b T d r c .gO F gh e
  | n + 1=>bX P E m a Lg b T d r c (.load n) F gm e
 exact ⟨_,.Ct (f:=pick p) h i k l o s t (λe q=>aY (p:=p) (n:=0) (u e q)) λe z q x=>aY (p:=p) (n:=z + 1) (v e z q x)⟩
theorem aa.Cu (g:E.on)(h:j.status= .running)(i:j.offers=none)(k:Up g')(l: ∀ (e:World) n,RK E F w e->WgAt E.ty E.Wg e n 0->stepG P m j e= .go {j with status:= .blocked} e #[])(o: ∀e,RK E F w e->WgAt E.ty E.Wg e 0 1->stepG P m j e= .go g' (e.setCell (smA E.Wg) (.int .u32 0)) (semEvents (smA E.Wg)))
  (s: ∀e,RK E F w e->aa P E m a Lg b d r c .gD F g' e):aa P E m a Lg b d r c .gO F j w:=
 ⟨_,.Cu (f:=pick λe _ _ T=>bX P E m a Lg b T d r c .gD F g' e) g h i k l o λe q=>aY (p:=λe _ _ T=>bX P E m a Lg b T d r c .gD F g' e) (s e q)⟩
theorem aa.nX (g:E.on)(h:j.status= .running)(i:Up g')(k:0<d)(l: ∀e,RK E F w e->WgAt E.ty E.Wg e 0 0->j1 P m j e= .go g' e #[p9 (stA E.Wg)])(n: ∀e,RK E F w e->aa P E m a Lg b d r c .joined F g' e):aa P E m a Lg b d r c .gD F j w:=
 ⟨_,.nX (f:=pick λe _ _ T=>bX P E m a Lg b T d r c .joined F g' e) g h i k l λe q=>aY (p:=λe _ _ T=>bX P E m a Lg b T d r c .joined F g' e) (n e q)⟩
theorem aa.BY (g:m=false)(h:E.on)(i:j.status= .running)(k:Up Z)(l: ∀e,RK E F w e->Lg F e)(n: ∀e,RK E F w e->j1 P m j e= .go Z e #[l8 (.releaseMerge (stA E.Wg))])(o: ∀e,RK E .none w e->aa P E m a Lg b 0 r c .tail .none Z e):aa P E m a Lg b 0 r c (.work false [] []) F j w:=
 ⟨_,.BY (f:=pick λe _ _ T=>bX P E m a Lg b T 0 r c .tail .none Z e) g h i k l n λe d=>aY (p:=λe _ _ T=>bX P E m a Lg b T 0 r c .tail .none Z e) (o e d)⟩
theorem aa.dec (h:Nat->Nat->h8)(l:E.on)(o:j.status= .running)(i:Up (h 0 1))(s:0<d)
  (t: ∀ (e:World)(v g:Nat),RK E F w e->g<=1->v<2147483647->WgAt E.ty E.Wg e ((v + 1) * KK + g) 0->j1 P m j e= .go (h v g) (e.setCell (stA E.Wg) (.int .u64 (v * KK + g))) #[p9 (stA E.Wg),B0 (stA E.Wg)])
  (u: ∀e,RK E F w e->aa P E m a Lg b d r c .en F (h 0 1) e)(x: ∀ (e:World)(v g:Nat),RK E F w e->g<=1->v<2147483647-> ¬ (v=0/\g=1)->aa P E m a Lg b d r c .gone F (h v g) e):aa P E m a Lg b d r c .tail F j w:=by
 let p:World->Nat->h7->Tr->Prop:=λe n _ T=>if n=0 then bX P E m a Lg b T d r c .en F (h 0 1) e else bX P E m a Lg b T d r c .gone F (h ((n - 1) / 2) ((n - 1) % 2)) e
 refine ⟨_,.dec (f:=pick p) h l o i s t (λe q=> ?_) λe v g q y z A=> ?_⟩
 ·have:=aY (p:=p) (w:=e) (n:=0) (v:=U) (by obtain ⟨T,k⟩:=u e q;exact ⟨T,by show if (0:Nat)=0 then _ else _;rw[if_pos R];exact k⟩);assumption
 ·have B:(2 * v + g + 1 - 1) / 2=v:=by omega
  have C:(2 * v + g + 1 - 1) % 2=g:=YP;have:=aY (p:=p) (w:=e) (n:=2 * v + g + 1) (v:=U) (by
   obtain ⟨T,k⟩:=x e v g q y z A;refine ⟨T,?_⟩;show if 2 * v + g + 1=0 then _ else _
   rw[if_neg YP,B,C];exact k)
  grind
theorem aa.en (g:E.on)(h:j.status= .running)(i:Up g')(k:0<d)(l: ∀e,RK E F w e->WgAt E.ty E.Wg e 1 0->j1 P m j e= .go g' e #[p9 (stA E.Wg)])(n: ∀e,RK E F w e->aa P E m a Lg b d r c .eo F g' e):aa P E m a Lg b d r c .en F j w:=
 ⟨_,.en (f:=pick λe _ _ T=>bX P E m a Lg b T d r c .eo F g' e) g h i k l λe q=>aY (p:=λe _ _ T=>bX P E m a Lg b T d r c .eo F g' e) (n e q)⟩
theorem aa.eo (g:E.on)(h:j.status= .running)(i:Up g')(k:0<d)(l: ∀e,RK E F w e->WgAt E.ty E.Wg e 1 0->j1 P m j e= .go g' (e.setCell (stA E.Wg) (.int .u64 0)) #[B0 (stA E.Wg)])(n: ∀e,RK E F w e->aa P E m a Lg b d r c .cu F g' e):aa P E m a Lg b d r c .eo F j w:=
 ⟨_,.eo (f:=pick λe _ _ T=>bX P E m a Lg b T d r c .cu F g' e) g h i k l λe q=>aY (p:=λe _ _ T=>bX P E m a Lg b T d r c .cu F g' e) (n e q)⟩
theorem aa.cu (e:E.on)(h:g.status= .running)(i:G8 P g=true)(j: ∀b,RK E F w b->WgAt E.ty E.Wg b 0 0->j1 P m g b= .go g' (b.setCell (smA E.Wg) (.int .u32 1)) (J6 (smA E.Wg)))(k: ∀b,RK E F w b->aa P E m a Lg End d r c .gone F g' b):aa P E m a Lg End d r c .cu F g w:=
 ⟨_,.cu (f:=pick λb _ _ T=>bX P E m a Lg End T d r c .gone F g' b) e h i j λb q=>aY (p:=λb _ _ T=>bX P E m a Lg End T d r c .gone F g' b) (k b q)⟩
theorem aa.leave {q:Nat}(h:QuitsD P q d j):aa P E m a f b d r c .gone F j w:=⟨_,.leave h⟩
theorem Ki(h:F.ok)(c: ∀b i,F.cl b i->b<d):(F.add d q).ok:=⟨λb a=>a.imp (h.wr b) id,λb i a e=>e.elim (h.cl b i a) λf=>by have:=c b i a;omega⟩
structure FG (E:Env)(F:aq)(w:World):Prop where
 ok:F.ok
 low: ∀b i,F.cl b i->b<w.heap.size
 dZ: ∀b,F.rd b->b<w.heap.size
 out: ∀b,(E.S b\/(E.on/\b=E.Wg))->b<w.heap.size/\ ¬F.rd b/\ ∀k,¬F.cl b k
 live:E.ok w
 pure:F.pure E.S
theorem FG.keep {w1:World}(h:FG E F w)(k:RK E F w w1):FG E F w1:=⟨h.ok,λb i c=>j7 (h.low b i c) k.keep.size,λb a=>j7 (h.dZ b a) k.keep.size,λb a=>⟨j7 (h.out b a).1 k.keep.size,(h.out b a).2⟩,k.ok,h.pure⟩
theorem FG.did(h:FG E F w)(k:oH F w C es):FG E (F.add w.heap.size C.heap.size) C:=by
 have e:E.on->E.Wg<w.heap.size:=λd=>by obtain ⟨_,_,c⟩:=h.live.1 d;exact (m5.1 c).1
 refine ⟨Ki h.ok h.low,λb i f=>j7 (h.low b i f) k.size,λb a=>a.elim (λc=>j7 (h.dZ b c) k.size) (λc=>c.2),λb a=>⟨j7 (h.out b a).1 k.size,λc=>c.elim (h.out b a).2.1 λm=>by have:=(h.out b a).1;omega,(h.out b a).2.2⟩,⟨λd=> ?_,Sx.dR h.live.2 k.size (λb a=>k.same b (j7 a h.live.2.1) (h.pure b a).1 (h.pure b a).2) ⟨k.os,k.output⟩⟩,h.pure.add h.live.2.1⟩;obtain ⟨g,j,c⟩:=h.live.1 d;exact ⟨g,j,by unfold WgAt;rw[k.same _ (e d) (λl=>(h.out _ (.inr ⟨d,R⟩)).2.1 (h.ok.wr _ l)) (h.out _ (.inr ⟨d,R⟩)).2.2];exact c⟩
end
end
section
variable {End:aq->Goroutine->World->Nat->Prop}{b b':Frame}{cs cs':List Frame}
variable {E:Env}{F:aq}{a:ca->Tr->bC->List Ak->aq->Goroutine->World->Prop}{c:List bC}{f:bC}{g:ca}{u:Ph}
theorem aa.ctl (i:u≠ .gone)(h: ∀b,RK E F w b->j1 P m (G e s) b= .go (G b' cs') b #[])(k: ∀b,RK E F w b->aa P E m a f End d g c u F (G b' cs') b):aa P E m a f End d g c u F (G e s) w:=
 aa.mute (λ_=>G b' cs') i R (λ_ _=>⟨R,R⟩) h k
theorem aa.off (j:u≠ .gone)(h: ∀i,RK E F w i->j1 P m (G b cs) i= .go (G e s) i #[l8 .disable])(k: ∀i,RK E F w i->aa P E m a f End (d + 1) g c u F (G e s) i):aa P E m a f End d g c u F (G b cs) w:=
 aa.disable j R ⟨R,R⟩ h k
theorem aa.SU (i:u≠ .gone)(h: ∀b,RK E F w b->j1 P m (G e s) b= .go (G O T) b #[l8 .enable])(k: ∀b,RK E F w b->aa P E m a f End d g c u F (G O T) b):aa P E m a f End (d + 1) g c u F (G e s) w:=
 aa.enable i R ⟨R,R⟩ h k
end
section
open Go.ConcR (KK WgAt stA smA)
open Go.Conc.Lib
section
variable {Sp:ca->Tr->bC->List Ak->aq->Goroutine->World->Prop}{Lg:bC}{End:aq->Goroutine->World->Nat->Prop}{r:ca}{lg:List bC}{ph:Ph}{b:Frame}{a:Act}{cs:List Frame}{ops:Array Oper}{i:Nat}{rest:List Nat}{o:Oper}{fn:Func}{args:Array Operand}
variable {E:Env}{F:aq}
theorem aa.val (u:h7)(e:ph≠ .gone)(f:ops[i]? =S o)(g:j5 o (l7 ops a.tmps)=true)(h:b.kind≠ .early)(j: ∀w,(u3 a.eval o).run P w= .ok (.value u) w)(l: ∀w,(u3 a.eval o).events P w #[]= #[])
  (K: ∀c,RK E F w c->aa P E m Sp Lg End d r lg ph F (G (b.at (a.put o.dst u) (.inRegion ops rest::k)) cs) c):aa P E m Sp Lg End d r lg ph F (G (b.at a (.inRegion ops (i::rest)::k)) cs) w:=
 aa.ctl e (λc _=>by rw[stepG_value f g h (j c)];unfold L5;rw[l c,J7]) K
variable {c:List bC}{f:bC}{g:ca}{u:Ph}
theorem aa.Ta (a:u≠ .gone)(h:ops[q]? =S A)(i:j5 A (l7 ops t.tmps)=false)
  (K: ∀b,RK E F w b->aa P E m Sp f End d g c u F (G (e.at (t.put A.dst U) (.inRegion ops l::k)) s) b):aa P E m Sp f End d g c u F (G (e.at t (.inRegion ops (q::l)::k)) s) w:=
 aa.ctl a (λ_ _=>stepG_unwanted h i) K
theorem aa.enter {n:Code}(j:u≠ .gone)(p:ops[q]? =S A)(r:j5 A (l7 ops a.tmps)=true)(s:b.kind≠ .early)(f:A.op= .call {callee:= .value (.func B),args,argTypes:=v})(l:P.funcs[B]? =S fn)(e:(fn.name== "runtime.NumGoroutine")=false)(o:fn.body=S n)
  (K: ∀i,RK E F w i->aa P E m Sp Lg End d g c u F (G ((base B).at {tmps:=args.map a.eval ++ G5 (fn.ntmps - (args.map a.eval).size) U,defers:= []} [.code n]) (b.at a (.inRegion ops (q::rest)::k)::cs)) i):aa P E m Sp Lg End d g c u F (G (b.at a (.inRegion ops (q::rest)::k)) cs) w:=by
 have h:fn.body.isNone=false:=by rw[o];rfl
 refine aa.ctl j (λi _=> ?_) K;rw[stepG_enter p r s (run_call_body f l e h),enter_at _ l o];have:L5 P b.fn a A i= #[]:=by unfold L5;rw[events_call_body f l e h];exact J7 P _
 rw[this]
variable {a₀:Act}{todo:List Item}
theorem aa.leave0 (b:u≠ .gone)(i:e.kind= .normal)(j:t.defers= [])(n:P.funcs[e.fn]? =S fn)(h:fn.results= #[])
  (K: ∀a,RK E F w a->aa P E m Sp f End d g c u F (G (O.at (a₀.put ((ops[q]?).bind (·.dst)) (.tuple #[])) (.inRegion ops l::k)) s) a):aa P E m Sp f End d g c u F (G {e.at t todo with mode:= .returning} (O.at a₀ (.inRegion ops (q::l)::k)::s)) w:=
 aa.ctl b (λa _=>by rw[stepG_leave i j n (results_none h _ P a) (events_results_none h _ _),G6]) K
theorem aa.leave1 {h:Tmp}(b:u≠ .gone)(j:e.kind= .normal)(n:t.defers= [])(o:P.funcs[e.fn]? =S fn)(i:fn.results= #[.tmp h])
  (K: ∀a,RK E F w a->aa P E m Sp f End d g c u F (G (O.at (a₀.put ((ops[q]?).bind (·.dst)) (t.tmps.getD h U)) (.inRegion ops l::k)) s) a):aa P E m Sp f End d g c u F (G {e.at t todo with mode:= .returning} (O.at a₀ (.inRegion ops (q::l)::k)::s)) w:=
 aa.ctl b (λa _=>by rw[stepG_leave j n o (results_tmp i _ P a) (events_results_tmp i _ _),G6]) K
variable {y z:Operand}
theorem Ip (v:Nat)(h:v<2147483647):IntKind.u64.wrap ((v:Int) * KK + 4294967296)=((v:Int) + 1) * KK:=by rw[y6];simp only[KK];omega
theorem BE (v a:Nat)(h:v<2147483647)(b:a<=1):IntKind.u64.wrap (((v:Int) + 1) * KK + a + 18446744069414584320)=(v:Int) * KK + a:=by rw[y6];simp only[KK];omega
theorem aa.Kg{j:List (List Ak)}{s:List Ak}(H:WgLib P L)(l:m=true)(n:E.on)(o:0<d)(p:ops[q]? =S A)(r:j5 A (l7 ops t.tmps)=true)(u:e.kind≠ .early)(h:A.op= .call {callee:= .value (.func L.addU64),args:= #[N,y],argTypes:=v})(x:t.eval N= .pointer (S (stA E.Wg)))(z:t.eval y= .int .u64 4294967296)
  (K: ∀ (i:World)(a:Nat),RK E F w i->a<2147483647->aa P E m Sp f End d g c (.work true (D::j) s) F (G (e.at (t.put A.dst (.int .u64 (((a:Int) + 1) * KK))) (.inRegion ops rest::k)) cs) i):aa P E m Sp f End d g c (.work false (D::j) s) F (G (e.at t (.inRegion ops (q::rest)::k)) cs) w:=
 aa.inc (λa=>G (e.at (t.put A.dst (.int .u64 (((a:Int) + 1) * KK))) (.inRegion ops rest::k)) cs) l n R (λ_=>⟨R,R⟩) o (λi a _ B b=>by have:=F2 (P:=P) (main:=m) (cs:=cs) (rest:=rest) (kk:=k) p r u h H.f_addU64 (y7 L) (y8 L) (y9 L) .u64 (z2 L) x z b.cellSt (b.thaw 0);rw[Ip a B]at this;exact this) K
theorem aa.Mm (H:WgLib P L)(n:E.on)(o:0<d)(p:ops[q]? =S A)(r:j5 A (l7 ops t.tmps)=true)(s:e.kind≠ .early)(j:A.op= .call {callee:= .value (.func L.addU64),args:= #[N,y],argTypes:=v})(u:t.eval N= .pointer (S (stA E.Wg)))(x:t.eval y= .int .u64 18446744069414584320)
  (z: ∀ (h:World),RK E F w h->aa P E m Sp f End d g c .en F (G (e.at (t.put A.dst (.int .u64 (((0:Nat):Int) * KK + (1:Nat)))) (.inRegion ops rest::k)) cs) h)
  (B: ∀ (h:World)(a b:Nat),RK E F w h->b<=1->a<2147483647-> ¬ (a=0/\b=1)->aa P E m Sp f End d g c .gone F (G (e.at (t.put A.dst (.int .u64 ((a:Int) * KK + b))) (.inRegion ops rest::k)) cs) h):aa P E m Sp f End d g c .tail F (G (e.at t (.inRegion ops (q::rest)::k)) cs) w:=
 aa.dec (λa b=>G (e.at (t.put A.dst (.int .u64 ((a:Int) * KK + b))) (.inRegion ops rest::k)) cs) n R ⟨R,R⟩ o (λh a b _ l C i=>by have:=F2 (P:=P) (main:=m) (cs:=cs) (rest:=rest) (kk:=k) p r s j H.f_addU64 (y7 L) (y8 L) (y9 L) .u64 (z2 L) u x i.cellSt (i.thaw 0);rw[BE a b C l]at this;exact this) z B
theorem aa.OJ {n:Nat}(H:WgLib P L)(j:E.on)(l:0<d)(o:ops[q]? =S A)(p:j5 A (l7 ops t.tmps)=true)(r:e.kind≠ .early)(h:A.op= .call {callee:= .value (.func L.loadU64),args:= #[N],argTypes:=v})(s:t.eval N= .pointer (S (stA E.Wg)))
  (u: ∀ (b:World),RK E F w b->aa P E m Sp f End d g c .joined F (G (e.at (t.put A.dst (.int .u64 (((0:Nat):Int) * KK))) (.inRegion ops rest::k)) cs) b)
  (x: ∀ (b:World)(a:Nat),RK E F w b->0<a->a<=n->a<2147483648->aa P E m Sp f End d g c (.wP a) F (G (e.at (t.put A.dst (.int .u64 ((a:Int) * KK))) (.inRegion ops rest::k)) cs) b):aa P E m Sp f End d g c (.load n) F (G (e.at t (.inRegion ops (q::rest)::k)) cs) w:=
 aa.sy (λa=>G (e.at (t.put A.dst (.int .u64 ((a:Int) * KK))) (.inRegion ops rest::k)) cs) j R (λ_=>⟨R,R⟩) l (λ_ _ _ _ _ i=>y0 (P:=P) (main:=m) (cs:=cs) (rest:=rest) (kk:=k) o p r h H.f_loadU64 (o0 L) (o4 L) (o5 L) .u64 (o6 L) s i.cellSt) u x
theorem aa.Qx {i:Nat}(H:WgLib P L)(u:E.on)(x:0<d)(l:ops[q]? =S A)(n:j5 A (l7 ops t.tmps)=true)(o:e.kind≠ .early)(h:A.op= .call {callee:= .value (.func L.casU64),args:= #[N,y,z],argTypes:=v})(p:t.eval N= .pointer (S (stA E.Wg)))(r:t.eval y= .int .u64 ((i:Int) * KK))(s:t.eval z= .int .u64 ((i:Int) * KK + 1))
  (B: ∀ (b:World),RK E F w b->aa P E m Sp f End d g c .gO F (G (e.at (t.put A.dst (.bool true)) (.inRegion ops rest::k)) cs) b)
  (C: ∀ (b:World)(j:Nat),RK E F w b->j<i->aa P E m Sp f End d g c (.load j) F (G (e.at (t.put A.dst (.bool false)) (.inRegion ops rest::k)) cs) b):aa P E m Sp f End d g c (.wP i) F (G (e.at t (.inRegion ops (q::rest)::k)) cs) w:=
 aa.Ct (gh:=G (e.at (t.put A.dst (.bool true)) (.inRegion ops rest::k)) cs) (gm:=G (e.at (t.put A.dst (.bool false)) (.inRegion ops rest::k)) cs) u R ⟨R,R⟩ ⟨R,R⟩ x
  (λb _ a=>stepG_cas_hit (P:=P) (main:=m) (cs:=cs) (rest:=rest) (kk:=k) l n o h H.f_casU64 (z3 L) (z4 L) (z5 L) .u64 (z6 L) p r s a.cellSt (a.thaw 0))
  (λb j _ D a=>stepG_cas_miss (P:=P) (main:=m) (cs:=cs) (rest:=rest) (kk:=k) l n o h H.f_casU64 (z3 L) (z4 L) (z5 L) .u64 (z6 L) p r s a.cellSt (a.thaw 0) (by simp only[KK];omega)) B C
theorem aa.QT (H:WgLib P L)(o:E.on)(i:ops[q]? =S A)(j:j5 A (l7 ops t.tmps)=true)(p:e.kind≠ .early)(b:A.op= .call {callee:= .value (.func L.semacquire),args,argTypes:=v})(l:(args.map t.eval)[0]? =S (.pointer (S (smA E.Wg))))
  (K: ∀ (h:World),RK E F w h->aa P E m Sp f End d g c .gD F (G (e.at (t.put A.dst (.tuple #[])) (.inRegion ops rest::k)) cs) h):aa P E m Sp f End d g c .gO F (G (e.at t (.inRegion ops (q::rest)::k)) cs) w:=
 aa.Cu (g':=G (e.at (t.put A.dst (.tuple #[])) (.inRegion ops rest::k)) cs) o R R ⟨R,R⟩
  (λh r _ a=>stepG_semacquire_wait (P:=P) (main:=m) (cs:=cs) (rest:=rest) (kk:=k) i j b H.f_semacquire (u5 L) (u6 L) (u7 L) (u9 L) l a.cellSm)
  (λh _ a=>stepG_semacquire (P:=P) (main:=m) (cs:=cs) (rest:=rest) (kk:=k) (n:=1) i j p b H.f_semacquire (u5 L) (u6 L) (u7 L) (u9 L) l a.cellSm YQ (a.thaw 1)) K
theorem aa.Lv (H:WgLib P L)(i:E.on)(j:0<d)(l:ops[q]? =S A)(n:j5 A (l7 ops t.tmps)=true)(o:e.kind≠ .early)(a:A.op= .call {callee:= .value (.func L.loadU64),args:= #[N],argTypes:=v})(p:t.eval N= .pointer (S (stA E.Wg)))
  (K: ∀ (h:World),RK E F w h->aa P E m Sp f End d g c .joined F (G (e.at (t.put A.dst (.int .u64 0)) (.inRegion ops rest::k)) cs) h):aa P E m Sp f End d g c .gD F (G (e.at t (.inRegion ops (q::rest)::k)) cs) w:=
 aa.nX (g':=G (e.at (t.put A.dst (.int .u64 0)) (.inRegion ops rest::k)) cs) i R ⟨R,R⟩ j (λ_ _ b=>y0 (P:=P) (main:=m) (cs:=cs) (rest:=rest) (kk:=k) l n o a H.f_loadU64 (o0 L) (o4 L) (o5 L) .u64 (o6 L) p b.cellSt) K
theorem aa.Ek (H:WgLib P L)(i:E.on)(j:0<d)(l:ops[q]? =S A)(n:j5 A (l7 ops t.tmps)=true)(o:e.kind≠ .early)(a:A.op= .call {callee:= .value (.func L.loadU64),args:= #[N],argTypes:=v})(p:t.eval N= .pointer (S (stA E.Wg)))
  (K: ∀ (h:World),RK E F w h->aa P E m Sp f End d g c .eo F (G (e.at (t.put A.dst (.int .u64 1)) (.inRegion ops rest::k)) cs) h):aa P E m Sp f End d g c .en F (G (e.at t (.inRegion ops (q::rest)::k)) cs) w:=
 aa.en (g':=G (e.at (t.put A.dst (.int .u64 1)) (.inRegion ops rest::k)) cs) i R ⟨R,R⟩ j (λ_ _ b=>y0 (P:=P) (main:=m) (cs:=cs) (rest:=rest) (kk:=k) l n o a H.f_loadU64 (o0 L) (o4 L) (o5 L) .u64 (o6 L) p b.cellSt) K
theorem aa.BF (H:WgLib P L)(i:E.on)(j:0<d)(l:ops[q]? =S A)(n:j5 A (l7 ops t.tmps)=true)(o:e.kind≠ .early)(b:A.op= .call {callee:= .value (.func L.storeU64),args:= #[N,y],argTypes:=v})(p:t.eval N= .pointer (S (stA E.Wg)))(r:t.eval y= .int .u64 0)
  (K: ∀ (h:World),RK E F w h->aa P E m Sp f End d g c .cu F (G (e.at (t.put A.dst (.tuple #[])) (.inRegion ops rest::k)) cs) h):aa P E m Sp f End d g c .eo F (G (e.at t (.inRegion ops (q::rest)::k)) cs) w:=
 aa.eo (g':=G (e.at (t.put A.dst (.tuple #[])) (.inRegion ops rest::k)) cs) i R ⟨R,R⟩ j (λ_ _ a=>stepG_store_atomic (P:=P) (main:=m) (cs:=cs) (rest:=rest) (kk:=k) l n o b H.f_storeU64 (I5 L) (I6 L) (I7 L) (I8 L) p r a.cellSt (a.thaw 0)) K
theorem aa.Iq (H:WgLib P L)(j:E.on)(l:ops[q]? =S A)(o:j5 A (l7 ops t.tmps)=true)(p:e.kind≠ .early)(b:A.op= .call {callee:= .value (.func L.semrelease),args,argTypes:=v})(r:(args.map t.eval)[0]? =S (.pointer (S (smA E.Wg))))(h:G8 P (G (e.at t (.inRegion ops (q::rest)::k)) cs)=true)
  (K: ∀ (i:World),RK E F w i->aa P E m Sp f End d g c .gone F (G (e.at (t.put A.dst (.tuple #[])) (.inRegion ops rest::k)) cs) i):aa P E m Sp f End d g c .cu F (G (e.at t (.inRegion ops (q::rest)::k)) cs) w:=
 aa.cu (g':=G (e.at (t.put A.dst (.tuple #[])) (.inRegion ops rest::k)) cs) j R h (λi _ a=>by have:=stepG_semrelease (P:=P) (main:=m) (cs:=cs) (rest:=rest) (kk:=k) (n:=0) l o p b H.f_semrelease (G9 L) (H0 L) (H2 L) (H3 L) r a.cellSm (a.thaw 1);exact this) K
end
end
section
open Go.Conc.Lib Go.ConcR.Gen
open Go.ConcR (KK WgAt stA smA)
section
variable {Sp:ca->Tr->bC->List Ak->aq->Goroutine->World->Prop}{Lg:bC}{End:aq->Goroutine->World->Nat->Prop}{r:ca}{ph:Ph}{b:Frame}{a:Act}{cs:List Frame}{ops:Array Oper}{i:Nat}{fn:Func}{args:Array Operand}{a₀:Act}{todo:List Item}
variable {E:Env}{F:aq}
theorem RK.self(h:E.ok w):RK E F w w:=⟨.refl _ _,h⟩
variable {c:List bC}{f:bC}{g:ca}{u:Ph}
theorem aa.aT (i:RK E F C w)(eJ:u≠ .gone)(h: ∀w1,RK E F C w1->j1 P m (G b cs) w1= .go (G e s) w1 #[])(K: ∀w1,RK E F C w1->aa P E m Sp f End d g c u F (G e s) w1):aa P E m Sp f End d g c u F (G b cs) w:=aa.ctl eJ (λw1 a=>h w1 (i.trans a)) λw1 a=>K w1 (i.trans a)
theorem aa.LH (j:RK E F C w)(b:u≠ .gone)(h: ∀a,RK E F C a->j1 P m (G e s) a= .go (G O T) a #[l8 .disable])(K: ∀a,RK E F C a->aa P E m Sp f End (d + 1) g c u F (G O T) a):aa P E m Sp f End d g c u F (G e s) w:=aa.off b (λa i=>h a (j.trans i)) λa i=>K a (j.trans i)
theorem aa.IE (i:RK E F C w)(eJ:u≠ .gone)(h: ∀a,RK E F C a->j1 P m (G e s) a= .go (G O T) a #[l8 .enable])(K: ∀a,RK E F C a->aa P E m Sp f End d g c u F (G O T) a):aa P E m Sp f End (d + 1) g c u F (G e s) w:=aa.SU eJ (λa b=>h a (i.trans b)) λa b=>K a (i.trans b)
theorem aa.JM {b:x3}(k:RK E F C w)(i:u≠ .gone)(l:m=true)(n:E.on)(o:b=l8 (.read (smA E.Wg))\/b=l8 (.write (smA E.Wg)))(h: ∀a,RK E F C a->j1 P m (G e s) a= .go (G O T) a #[b])(K: ∀a,RK E F C a->aa P E m Sp f End d g c u F (G O T) a):aa P E m Sp f End d g c u F (G e s) w:=aa.said i l n o R ⟨R,R⟩ (λa j=>h a (k.trans j)) λa j=>K a (k.trans j)
theorem aa.yT (j:RK E F C w)(b:h7)(h:u≠ .gone)(n:ops[i]? =S A)(o:j5 A (l7 ops t.tmps)=true)(p:e.kind≠ .early)(q: ∀w,(u3 t.eval A).run P w= .ok (.value b) w)(r: ∀w,(u3 t.eval A).events P w #[]= #[])
  (K: ∀a,RK E F C a->aa P E m Sp f End d g c u F (G (e.at (t.put A.dst b) (.inRegion ops l::k)) s) a):aa P E m Sp f End d g c u F (G (e.at t (.inRegion ops (i::l)::k)) s) w:=aa.val b h n o p q r λa v=>K a (j.trans v)
theorem aa.QY (h:RK E F C w)(b:u≠ .gone)(i:ops[q]? =S A)(j:j5 A (l7 ops t.tmps)=false)
  (K: ∀a,RK E F C a->aa P E m Sp f End d g c u F (G (e.at (t.put A.dst U) (.inRegion ops l::k)) s) a):aa P E m Sp f End d g c u F (G (e.at t (.inRegion ops (q::l)::k)) s) w:=aa.Ta b i j λa n=>K a (h.trans n)
theorem aa.iG {h:Code}(i:RK E F C w)(b:u≠ .gone)(j:ops[q]? =S A)(n:j5 A (l7 ops t.tmps)=true)(o:e.kind≠ .early)(f:A.op= .call {callee:= .value (.func B),args,argTypes:=v})(p:P.funcs[B]? =S fn)(a:(fn.name== "runtime.NumGoroutine")=false)(r:fn.body=S h)
  (K: ∀w1,RK E F C w1->aa P E m Sp Lg End d g c u F (G ((base B).at {tmps:=args.map t.eval ++ G5 (fn.ntmps - (args.map t.eval).size) U,defers:= []} [.code h]) (e.at t (.inRegion ops (q::l)::k)::s)) w1):aa P E m Sp Lg End d g c u F (G (e.at t (.inRegion ops (q::l)::k)) s) w:=aa.enter b j n o f p a r λw1 x=>K w1 (i.trans x)
theorem aa.kZ (h:RK E F C w)(b:u≠ .gone)(i:e.kind= .normal)(j:t.defers= [])(n:P.funcs[e.fn]? =S fn)(o:fn.results= #[])
  (K: ∀a,RK E F C a->aa P E m Sp f End d g c u F (G (O.at (a₀.put ((ops[q]?).bind (·.dst)) (.tuple #[])) (.inRegion ops l::k)) s) a):aa P E m Sp f End d g c u F (G {e.at t todo with mode:= .returning} (O.at a₀ (.inRegion ops (q::l)::k)::s)) w:=aa.leave0 b i j n o λa p=>K a (h.trans p)
theorem aa.ie {t:Tmp}(h:RK E F C w)(eJ:u≠ .gone)(i:e.kind= .normal)(j:a.defers= [])(n:P.funcs[e.fn]? =S fn)(o:fn.results= #[.tmp t])
  (K: ∀b,RK E F C b->aa P E m Sp f End d g c u F (G (O.at (a₀.put ((ops[q]?).bind (·.dst)) (a.tmps.getD t U)) (.inRegion ops l::k)) s) b):aa P E m Sp f End d g c u F (G {e.at a todo with mode:= .returning} (O.at a₀ (.inRegion ops (q::l)::k)::s)) w:=aa.leave1 eJ i j n o λb p=>K b (h.trans p)
theorem aa.uM{h t:j4}{ad:n5}(y:RK E F C w)(eJ:u≠ .gone)(z:ops[q]? =S A)(B:j5 A (l7 ops a.tmps)=true)(D:e.kind≠ .early)(i:A.op= .convert H h N)(o:P.underlying H=S (.pointer t))(p:P.underlying h=S .unsafePointer)(j:(P.info? t).map (λq=>decide (q.size=0))=S false)
  (r:a.eval N= .pointer (S ad))(I: ∀b,RK E F C b-> ∃v,b.cell? ad=S v)(K: ∀b,RK E F C b->aa P E m Sp f End d g c u F (G (e.at (a.put A.dst (.pointer (S ad))) (.inRegion ops l::k)) s) b):aa P E m Sp f End d g c u F (G (e.at a (.inRegion ops (q::l)::k)) s) w:=by
 refine aa.aT y eJ (λb J=> ?_) K;obtain ⟨v,x⟩:=I b J;have L:=run_convert_to_unsafe (P:=P) o p j x;have n:=λM=>events_convert_to_unsafe (P:=P) o p j x M;rw[stepG_value (v:= .pointer (S ad)) (w':=b) z B D (by unfold u3;simp only[i,r];simp_all)];unfold L5;have:(u3 a.eval A).events P b #[]= #[]:=by unfold u3;simp only[i,r];simp[go_sem,n]
 rw[this,J7]
theorem aa.st(b:RK E F C w)(K: ∀a,RK E F C a->aa P E m Sp f End d r c ph F j a):aa P E m Sp f End d r c ph F j w:=K w b
theorem aa.cS {x y:Code}(K: ∀a,RK E F w a->aa P E m Sp f End d g c u F (G (e.at t (.code x:: .code y::k)) s) a)(eJ:u≠ .gone:=by simp): ∀a,RK E F w a->aa P E m Sp f End d g c u F (G (e.at t (.code (.seq x y)::k)) s) a:=λ_ b=> .aT b eJ (λ_ _=>h9) K
theorem aa.cE (K: ∀a,RK E F w a->aa P E m Sp f End d g c u F (G (e.at t k) s) a)(eJ:u≠ .gone:=by simp): ∀a,RK E F w a->aa P E m Sp f End d g c u F (G (e.at t (.inRegion ops []::k)) s) a:=λ_ b=> .aT b eJ (λ_ _=>h5) K
theorem aa.cK (K: ∀a,RK E F w a->aa P E m Sp f End d g c u F (G (e.at t k) s) a)(b:u≠ .gone:=by simp): ∀a,RK E F w a->aa P E m Sp f End d g c u F (G (e.at t (.code .skip::k)) s) a:=λ_ h=> .aT h b (λ_ _=>l6) K
theorem aa.cR(K: ∀e,RK E F w e->aa P E m Sp f End d g c u F (G (b.at a (.inRegion ops (List.range ops.size)::k)) s) e)(eJ:u≠ .gone:=by simp): ∀e,RK E F w e->aa P E m Sp f End d g c u F (G (b.at a (.code (.region q ops false)::k)) s) e:=λ_ h=> .aT h eJ (λ_ _=>stepG_region) K
theorem aa.cU (K: ∀a,RK E F w a->aa P E m Sp f End d g c u F (G (e.at (t.put A.dst U) (.inRegion ops l::k)) s) a)(b:ops[q]? =S A:=by rfl)(h:j5 A (l7 ops t.tmps)=false:=by rfl)(eJ:u≠ .gone:=by simp): ∀a,RK E F w a->aa P E m Sp f End d g c u F (G (e.at t (.inRegion ops (q::l)::k)) s) a:=λ_ i=> .QY i eJ b h K
theorem aa.cV (b:h7)(K: ∀a,RK E F C a->aa P E m Sp f End d g c u F (G (e.at (t.put A.dst b) (.inRegion ops l::k)) s) a)(h:ops[q]? =S A:=by rfl)(i:j5 A (l7 ops t.tmps)=true:=by rfl)(j:e.kind≠ .early:=by k_ne)(n: ∀w,(u3 t.eval A).run P w= .ok (.value b) w:=by intro _;go_simp<;>rfl)(o: ∀w,(u3 t.eval A).events P w #[]= #[]:=by intro _;simp[go_sem, *])(eJ:u≠ .gone:=by simp): ∀a,RK E F C a->aa P E m Sp f End d g c u F (G (e.at t (.inRegion ops (q::l)::k)) s) a:=λ_ p=> .yT p b eJ h i j n o K
theorem pz (b:E.on)(a:E.ok w): ∃v,w.cell? ⟨E.Wg,0,none⟩=S v:=by obtain ⟨_,_,h⟩:=a.1 b;exact ⟨_,h.cellSt⟩
theorem uF (b:E.on)(a:E.ok w): ∃v,w.cell? ⟨E.Wg,1,none⟩=S v:=by obtain ⟨_,_,h⟩:=a.1 b;exact ⟨_,h.cellSm⟩
end
section
variable {P:Program}{E:Env}{Sp:ca->Tr->bC->List Ak->aq->Goroutine->World->Prop}{Lg:bC}{End:aq->Goroutine->World->Nat->Prop}{r:ca}{lg:List bC}{F:aq}{w:World}{L:WgLink}{sc:List Ak}{pl:List (List Ak)}{s:List Ak}{b₀:Frame}{a₀:Act}{ops₀:Array Oper}{i₀:Nat}{rest₀:List Nat}{k₀:List Item}{cs:List Frame}
theorem xH{P:j6}{E:Env}{Sp:ca->Tr->bC->List Ak->aq->h8->World->Prop}{Lg:bC}{End:aq->h8->World->Nat->Prop}{r:ca}{lg:List bC}{F:aq}{w:World}{L:WgLink}{sc:List Ak}{pl:List (List Ak)}{s:List Ak}{b₀:Frame}{a₀:Act}{ops₀:Array Oper}{i₀:Nat}{rest₀:List Nat}{k₀:List K2}{cs:List Frame} (H:WgLib P L)(g:E.on)(b:E.ok w)
  (K: ∀h,RK E F w h->aa P E true Sp Lg End 0 r lg (.work true (sc::pl) s) F (G (b₀.at (a₀.put ((ops₀[i₀]?).bind (·.dst)) (.tuple #[])) (.inRegion ops₀ rest₀::k₀)) cs) h):
  aa P E true Sp Lg End 0 r lg (.work false (sc::pl) s) F (G ((base L.add).at ⟨#[.pointer (S ⟨E.Wg,0,none⟩),.int .i64 1,U,U,U,U,U,U,U,U,U,U,U,U,U,U,U,U,U,U,U,U,U,U,U,U,U,U,U,U,U,U,U,U,U,U,U,U,U,U,U,U,U,U,U,U,U,U,U,U,U,U,U,U,U,U,U,U,U,U,U,U,U,U,U,U,U,U,U,U,U,U,U,U,U,U,U,U,U,U,U,U,U,U,U,U,U,U,U,U,U,U,U,U,U,U,U,U,U,U,U,U,U,U,U,U,U,U,U,U,U,U,U,U,U,U,U],[]⟩ [.code (body_add L)]) (b₀.at a₀ (.inRegion ops₀ (i₀::rest₀)::k₀)::cs)) w:=by
 lib_facts
 simp only[body_add,addFn,s6];have a:RK E F w w:=RK.self b;clear b;refine aa.aT a YR (λ_ _=>h9) ?_;clear a;intro _ a;refine aa.aT a YR (λ_ _=>j0 (t:=true) R) ?_;clear a;intro _ a;simp only[if_true];refine aa.st a ?_;clear a;refine aa.cS ?_;refine aa.cS ?_;refine aa.cR ?_;refine aa.cV _ ?_;walk_nrm;refine aa.cV _ ?_;walk_nrm;refine aa.cE ?_;intro _ a;refine aa.aT a YR (λ_ _=>j0 (t:=false) R) ?_;clear a;intro _ a;simp only[h6, ↓reduceIte];refine aa.st a ?_;clear a;refine aa.cK ?_;refine aa.cS ?_;refine aa.cR ?_;intro _ a;refine aa.LH a YR (λ_ _=>y1 .disable YR R R YY R H.f_disable (x_disable_n L) (x_disable_b L) (x_disable_x L) (x_disable_f L)) ?_;clear a;intro _ a;walk_nrm;refine aa.st a ?_;clear a;refine aa.cE ?_;refine aa.cR ?_;intro _ a;refine aa.aT a YR (λ_ _=>stepG_defer R R YY R) ?_;clear a;intro _ a;walk_nrm;refine aa.st a ?_;clear a;refine aa.cE ?_;refine aa.cS ?_;refine aa.cR ?_;refine aa.cV _ ?_;walk_nrm;refine aa.cE ?_;refine aa.cS ?_;refine aa.cS ?_;refine aa.cR ?_;intro _ a;refine aa.aT a YR (λ_ _=>F3 (.bool false) R R YY R H.f_inBubble (x_inBubble_n L) (x_inBubble_b L) (x_inBubble_x L) (x_inBubble_f L)) ?_;clear a;intro _ a;walk_nrm;refine aa.aT a YR (λ_ _=>h5) ?_;clear a;intro _ a;refine aa.aT a YR (λ_ _=>j0 (t:=false) R) ?_;clear a;intro _ a;simp only[h6, ↓reduceIte];refine aa.st a ?_;clear a;refine aa.cK ?_;refine aa.cS ?_;refine aa.cR ?_;refine aa.cV _ ?_;walk_nrm;refine aa.cV _ ?_;walk_nrm;refine aa.cV _ ?_;walk_nrm;refine aa.cV _ ?_;walk_nrm;refine aa.cV _ ?_;walk_nrm;refine aa.cV _ ?_;walk_nrm;intro _ a;refine aa.iG a YR R R YY R H.f_uAdd (nm_uAdd L) R ?_;clear a;intro _ a;walk_nrmf uAddFn
 refine aa.st a ?_;clear a;refine aa.cS ?_;refine aa.cR ?_;refine aa.cV _ ?_;walk_nrm;refine aa.cE ?_;refine aa.cS ?_;refine aa.cR ?_;refine aa.cV _ ?_;walk_nrm;refine aa.cV _ ?_;walk_nrm;refine aa.cV _ ?_;walk_nrm;refine aa.cV _ ?_;walk_nrm;intro _ a;refine aa.Kg H R g YP R R YY R R YV ?_;intro h v e i;replace a:=a.trans e;clear e;rcases Nat.eq_zero_or_pos v with rfl | j
 ·have z:(((0:Nat):Int) + 1) * KK=4294967296:=by simp[KK]
  rw[z];clear z i;have n:=bc2;have k:IntKind.u32.wrap 0=0:=YQ;have o:=bb2;walk_nrm;refine aa.st a ?_;clear a;refine aa.cV _ ?_;walk_nrm;refine aa.cE ?_;intro _ a;refine aa.aT a YR (λ_ _=>k8) ?_;clear a;intro _ a;refine aa.ie a YR R R H.f_uAdd R ?_;clear a;intro _ a;walk_nrm;refine aa.st a ?_;clear a;refine aa.cV _ ?_;walk_nrm;refine aa.cE ?_;refine aa.cS ?_;refine aa.cS ?_;refine aa.cR ?_;refine aa.cV _ ?_;walk_nrm;refine aa.cV _ ?_;walk_nrm;refine aa.cV _ ?_;walk_nrm;refine aa.cV _ ?_;walk_nrm;refine aa.cU ?_;walk_nrm;refine aa.cU ?_;walk_nrm;refine aa.cV _ ?_;walk_nrm;refine aa.cE ?_;intro _ a;refine aa.aT a YR (λ_ _=>j0 (t:=false) R) ?_;clear a;intro _ a;simp only[h6, ↓reduceIte];refine aa.st a ?_;clear a;refine aa.cK ?_;refine aa.cS ?_;refine aa.cR ?_;refine aa.cV _ ?_;walk_nrm;refine aa.cV _ ?_;walk_nrm;refine aa.cV _ ?_;walk_nrm;refine aa.cV _ ?_;walk_nrm;refine aa.cE ?_;refine aa.cS ?_;refine aa.cR ?_;refine aa.cV _ ?_;walk_nrm;refine aa.cV _ ?_;walk_nrm;refine aa.cV _ ?_;walk_nrm;refine aa.cV _ ?_;walk_nrm;refine aa.cE ?_;refine aa.cS ?_;refine aa.cS ?_;refine aa.cR ?_;refine aa.cV _ ?_;walk_nrm;refine aa.cV _ ?_;walk_nrm;refine aa.cV _ ?_;walk_nrm;refine aa.cV _ ?_;walk_nrm;refine aa.cV _ ?_;walk_nrm;refine aa.cV _ ?_;walk_nrm;refine aa.cV _ ?_;walk_nrm;refine aa.cV _ ?_;walk_nrm;refine aa.cV _ ?_;walk_nrm;refine aa.cV _ ?_;walk_nrm;refine aa.cE ?_;intro _ a;refine aa.aT a YR (λ_ _=>j0 (t:=true) R) ?_;clear a;intro _ a;simp only[if_true];refine aa.st a ?_;clear a;refine aa.cR ?_;refine aa.cV _ ?_;walk_nrm;refine aa.cV _ ?_;walk_nrm;refine aa.cV _ ?_;walk_nrm;intro _ a;refine aa.uM a YR R R YY R H.underlying_tPU32 H.underlying_tUP H.room_tU32 R (λ_ e=>uF g e.ok) ?_;clear a;intro _ a;walk_nrm;refine aa.JM a YR R g (.inl R) (λ_ _=>w5 .read YR R R YY R H.f_raceRead (x_raceRead_n L) (x_raceRead_b L) (x_raceRead_x L) (x_raceRead_f L) (ad:=smA E.Wg) (by simp[Act.eval,smA])) ?_;clear a;intro _ a;walk_nrm;refine aa.st a ?_;clear a;refine aa.cE ?_;refine aa.cS ?_;refine aa.cS ?_;refine aa.cR ?_;refine aa.cV _ ?_;walk_nrm;refine aa.cV _ ?_;walk_nrm;refine aa.cE ?_;intro _ a;refine aa.aT a YR (λ_ _=>j0 (t:=false) R) ?_;clear a;intro _ a;simp only[h6, ↓reduceIte];refine aa.st a ?_;clear a;refine aa.cK ?_;refine aa.cS ?_;refine aa.cS ?_;refine aa.cR ?_;refine aa.cV _ ?_;walk_nrm;refine aa.cV _ ?_;walk_nrm;refine aa.cV _ ?_;walk_nrm;refine aa.cU ?_;walk_nrm;refine aa.cU ?_;walk_nrm;refine aa.cV _ ?_;walk_nrm;refine aa.cV _ ?_;walk_nrm;refine aa.cU ?_;walk_nrm;refine aa.cU ?_;walk_nrm;refine aa.cU ?_;walk_nrm;refine aa.cU ?_;walk_nrm;refine aa.cV _ ?_;walk_nrm;refine aa.cE ?_;intro _ a;refine aa.aT a YR (λ_ _=>j0 (t:=false) R) ?_;clear a;intro _ a;simp only[h6, ↓reduceIte];refine aa.st a ?_;clear a;refine aa.cK ?_;refine aa.cS ?_;refine aa.cS ?_;refine aa.cR ?_;refine aa.cV _ ?_;walk_nrm;refine aa.cV _ ?_;walk_nrm;refine aa.cV _ ?_;walk_nrm;refine aa.cU ?_;walk_nrm;refine aa.cU ?_;walk_nrm;refine aa.cV _ ?_;walk_nrm;refine aa.cE ?_;intro _ a;refine aa.aT a YR (λ_ _=>j0 (t:=true) R) ?_;clear a;intro _ a;simp only[if_true];refine aa.aT a YR (λ_ _=>k8) ?_;clear a;intro _ a;refine aa.IE a YR (λ_ _=>C9 (v:= .tuple #[]) (evs:= #[l8 .enable]) R H.f_enable (x_enable_n L) (x_enable_b L) (x_enable_x L) (x_enable_f L) (by simp[E3]) Za Za) ?_;clear a;intro _ a;refine aa.kZ a YR R R H.f_add R ?_;omega
 ·obtain ⟨V,f⟩: ∃V:Int,V=(v:Int) + 1:=⟨_,R⟩;obtain ⟨c,d⟩: ∃c:Int,c=V * KK:=⟨_,R⟩;rw[<-f,<-d];have p:c / 4294967296=V:=by rw[d];simp only[KK];omega
  have q:G7 .and .u64 c 2147483648=0:=by rw[d,f];have:=K3 (v + 1) 0 YP YP;simpa[KK]using this
  have u:G7 .and .u64 c 2147483647=0:=by rw[d,f];have:=D1 (v + 1) 0 YP YP;simpa[KK]using this
  have x:IntKind.i32.wrap V=V:=by rw[F4];omega
  have l:1<V:=YP;have m:V<2147483648:=YP;have y:(V==1)=false:=YT;have A:decide (V=1)=false:=YP;have q3:decide (V<0)=false:=YS;have B:decide (0<V)=true:=YS;have C:(V==0)=false:=YT;have D:decide (V=0)=false:=YP;clear d f;have k:IntKind.u32.wrap 0=0:=YQ;have I:IntKind.i32.wrap 1=1:=YQ;walk_nrm;refine aa.st a ?_;clear a;refine aa.cV _ ?_;walk_nrm;refine aa.cE ?_;intro _ a;refine aa.aT a YR (λ_ _=>k8) ?_;clear a;intro _ a;refine aa.ie a YR R R H.f_uAdd R ?_;clear a;intro _ a;walk_nrm;refine aa.st a ?_;clear a;refine aa.cV _ ?_;walk_nrm;refine aa.cE ?_;refine aa.cS ?_;refine aa.cS ?_;refine aa.cR ?_;refine aa.cV _ ?_;walk_nrm;refine aa.cV _ ?_;walk_nrm;refine aa.cV _ ?_;walk_nrm;refine aa.cV _ ?_;walk_nrm;refine aa.cU ?_;walk_nrm;refine aa.cU ?_;walk_nrm;refine aa.cV _ ?_;walk_nrm;refine aa.cE ?_;intro _ a;refine aa.aT a YR (λ_ _=>j0 (t:=false) YZ) ?_;clear a;intro _ a;simp only[h6, ↓reduceIte];refine aa.st a ?_;clear a;refine aa.cK ?_;refine aa.cS ?_;refine aa.cR ?_;refine aa.cV _ ?_;walk_nrm;refine aa.cV _ ?_;walk_nrm;refine aa.cV _ ?_;walk_nrm;refine aa.cV _ ?_;walk_nrm;refine aa.cE ?_;refine aa.cS ?_;refine aa.cR ?_;refine aa.cV _ ?_;walk_nrm;refine aa.cV _ ?_;walk_nrm;refine aa.cV _ ?_;walk_nrm;refine aa.cV _ ?_;walk_nrm;refine aa.cE ?_;refine aa.cS ?_;refine aa.cS ?_;refine aa.cR ?_;refine aa.cV _ ?_;walk_nrm;refine aa.cV _ ?_;walk_nrm;refine aa.cV _ ?_;walk_nrm;refine aa.cV _ ?_;walk_nrm;refine aa.cV _ ?_;walk_nrm;refine aa.cV _ ?_;walk_nrm;refine aa.cV _ ?_;walk_nrm;refine aa.cV _ ?_;walk_nrm;refine aa.cV _ ?_;walk_nrm;refine aa.cV _ ?_;walk_nrm;refine aa.cE ?_;intro _ a;refine aa.aT a YR (λ_ _=>j0 (t:=false) YZ) ?_;clear a;intro _ a;simp only[h6, ↓reduceIte];refine aa.st a ?_;clear a;refine aa.cK ?_;refine aa.cS ?_;refine aa.cS ?_;refine aa.cR ?_;refine aa.cV _ ?_;walk_nrm;refine aa.cV _ ?_;walk_nrm;refine aa.cE ?_;intro _ a;refine aa.aT a YR (λ_ _=>j0 (t:=false) YZ) ?_;clear a;intro _ a;simp only[h6, ↓reduceIte];refine aa.st a ?_;clear a;refine aa.cK ?_;refine aa.cS ?_;refine aa.cS ?_;refine aa.cR ?_;refine aa.cV _ ?_;walk_nrm;refine aa.cV _ ?_;walk_nrm;refine aa.cV _ ?_;walk_nrm;refine aa.cU ?_;walk_nrm;refine aa.cU ?_;walk_nrm;refine aa.cV _ ?_;walk_nrm;refine aa.cV _ ?_;walk_nrm;refine aa.cU ?_;walk_nrm;refine aa.cU ?_;walk_nrm;refine aa.cU ?_;walk_nrm;refine aa.cU ?_;walk_nrm;refine aa.cV _ ?_;walk_nrm;refine aa.cE ?_;intro _ a;refine aa.aT a YR (λ_ _=>j0 (t:=false) YZ) ?_;clear a;intro _ a;simp only[h6, ↓reduceIte];refine aa.st a ?_;clear a;refine aa.cK ?_;refine aa.cS ?_;refine aa.cS ?_;refine aa.cR ?_;refine aa.cV _ ?_;walk_nrm;refine aa.cV _ ?_;walk_nrm;refine aa.cV _ ?_;walk_nrm;refine aa.cU ?_;walk_nrm;refine aa.cU ?_;walk_nrm;refine aa.cV _ ?_;walk_nrm;refine aa.cE ?_;intro _ a;refine aa.aT a YR (λ_ _=>j0 (t:=true) YZ) ?_;clear a;intro _ a;simp only[if_true];refine aa.aT a YR (λ_ _=>k8) ?_;clear a;intro _ a;refine aa.IE a YR (λ_ _=>C9 (v:= .tuple #[]) (evs:= #[l8 .enable]) R H.f_enable (x_enable_n L) (x_enable_b L) (x_enable_x L) (x_enable_f L) (by simp[E3]) Za Za) ?_;clear a;intro _ a;refine aa.kZ a YR R R H.f_add R ?_;omega
end
end
theorem au {p:Prop}(h:p):Hid p:=h
theorem ae {p:Prop}(h:Hid p):p:=h
theorem zo (b:Nat)(h:(Lit.float .f64 b).wf=true):b<18446744073709551616:=by simpa[Lit.wf]using h
def ng (b:Nat):Bool:=decide (9223372036854775808<=b)
def pw (b:Nat):Nat:=b / 4503599627370496 % 2048
def fr (b:Nat):Nat:=b % 4503599627370496
def rg (b:Nat):Nat:=b % 9223372036854775808
def cls (b:Nat):Int:=
 if pw b=0/\fr b=0 then 0 else if pw b=0 then 1 else if pw b<2047 then 2 else if fr b=0 then 3 else 4
theorem pt (b:Nat)(a:b<18446744073709551616):G7 .and .u64 (b:Int) 9223372036854775808=(if ng b then 9223372036854775808 else 0):=by rw[u64_and _ _ YP YP YP YP];rw[show (9223372036854775808:Int).toNat=2 ^ 63 by decide,E4,nat_bit];unfold ng;grind
theorem uz (b:Nat)(a:b<18446744073709551616):(G7 .and .u64 (b:Int) 9223372036854775808 !=0)=ng b:=by rw[pt b a];grind
theorem AJ (b:Nat)(a:b<18446744073709551616):wrap64 (G7 .and .u64 ((b:Int) / 4503599627370496) 2047)=(pw b:Int):=by rw[u64_and _ _ YP YP YP YP];rw[show (2047:Int).toNat=2047 by decide,nat_mask11];unfold wrap64 pw;omega
theorem sI (b:Nat)(a:b<18446744073709551616):G7 .and .u64 (b:Int) 4503599627370495=(fr b:Int):=by rw[u64_and _ _ YP YP YP YP];rw[show (4503599627370495:Int).toNat=2 ^ 52 - 1 by decide,E4,Nat.and_two_pow_sub_one_eq_mod];rfl
theorem nw:G7 .andNot .u64 0 9223372036854775808=0:=YQ
theorem OS (b:Nat):pw b<=2047:=by unfold pw;omega
theorem JC (b:Nat):fr b<4503599627370496:=by unfold fr;omega
theorem JL (b:Nat):rg b=pw b * 4503599627370496 + fr b:=by unfold rg pw fr;omega
theorem Kx (b:Nat):0<=cls b/\cls b<=4:=by unfold cls;omega
section
open Go.Conc.Lib Go.ConcR.Gen
open Go.ConcR (KK WgAt stA smA)
def JY (P:j6)(g b:h8):Prop:= ∀ (E:Env)(m:Bool)(Sp:ca->Tr->bC->List Ak->aq->h8->World->Prop)(Lg:bC)(End:aq->h8->World->Nat->Prop)(d:Nat)(r:ca)(lg:List bC)(ph:Ph)(F:aq)(w:World),ph≠ .gone->E.ok w->
 (∀a,RK E F w a->aa P E m Sp Lg End d r lg ph F b a)->aa P E m Sp Lg End d r lg ph F g w
section
variable {Sp:ca->Tr->bC->List Ak->aq->Goroutine->World->Prop}{Lg:bC}{End:aq->Goroutine->World->Nat->Prop}{r:ca}{lg:List bC}{L:WgLink}{b₀:Frame}{a₀:Act}{ops₀:Array Oper}{i₀:Nat}{rest₀:List Nat}{k₀:List Item}{cs:List Frame}
variable {E:Env}{F:aq}{a:ca->Tr->bC->List Ak->aq->Goroutine->World->Prop}{b:aq->Goroutine->World->Nat->Prop}{c:List bC}{f:bC}{g:ca}
theorem aa.NT(l:RK E F C w)(n:E.on)(h: ∀d,RK E F C d->j1 P m (G e s) d= .go (G O T) d #[l8 (.acquire (stA E.Wg))])
  (j: ∀d,RK E F C d->(∀ (i:Nat)(L:bC),c[i]? =S L-> ∃H,L H d)->b (.all d.heap.size E.S) (G O T) d d.heap.size):aa P E m a f b 0 g c .joined F (G e s) w:=
 ⟨_,.acq n R ⟨R,R⟩ (λd k=>h d (l.trans k)) λd k=>j d (l.trans k)⟩
theorem qQ (H:WgLib P L)(j:E.on)(x: ∀I h,RK E F C h->(∀ (O:Nat)(L:bC),c[O]? =S L-> ∃H,L H h)->JY P I (G (e.at (a₀.put ((i[d]?).bind (·.dst)) (.tuple #[])) (.inRegion i l::k)) s)->Up I->b (.all h.heap.size E.S) I h h.heap.size):
  ∀ (n:Nat)(T:Array Value)(w:World),T.size=84->T[0]? =S (.pointer (S ⟨E.Wg,0,none⟩))->RK E F C w->aa P E true Sp Lg b 1 r c (.load n) F (G ((base L.wait).at ⟨T,[]⟩ [.code (L7 L),.inLoop (L7 L),.inBlock 0]) (e.at a₀ (.inRegion i (d::l)::k)::s)) w:=by
 intro n;induction n using Nat.strongRecOn with
 | _ n J=>
 intro T w y M a;lib_facts
 obtain ⟨v0,v1,v2,v3,v4,v5,v6,v7,v8,v9,Q,V,W,X,Sl,Y,Z,a0,Sn,a2,v20,a3,a4,a5,a6,So,a7,a8,a9,b0,b3,b4,b5,b6,b7,b8,b9,c2,c3,c4,Sq,Sr,c5,c6,c7,c9,d0,d1,Ss,St,d2,d3,d4,d5,d6,d7,d8,d9,e0,e1,e2,e3,e4,e5,e6,e7,e8,e9,f0,f1,f2,f3,f4,f5,f6,f7,f8,f9,g0,g1,g2,g3,g4,g5,rfl⟩:=array84 T y;simp only[q8,p8,x5]at M;subst M;clear y;have u:=au J;clear J;have g:=au x;clear x;simp only[L7,body_wait,waitFn,s6]at u ⊢;refine aa.aT a YR (λ_ _=>B1) ?_;clear a;intro _ a;refine aa.st a ?_;clear a;refine aa.cS ?_;refine aa.cR ?_;refine aa.cV _ ?_;walk_nrm;refine aa.cV _ ?_;walk_nrm;refine aa.cV _ ?_;walk_nrm;intro _ a;refine aa.iG a YR R R YY R H.f_uLoad (nm_uLoad L) R ?_;clear a;intro _ a;walk_nrmf uLoadFn
 refine aa.st a ?_;clear a;refine aa.cS ?_;refine aa.cR ?_;refine aa.cV _ ?_;walk_nrm;refine aa.cE ?_;refine aa.cS ?_;refine aa.cR ?_;refine aa.cV _ ?_;walk_nrm;refine aa.cV _ ?_;walk_nrm;refine aa.cV _ ?_;walk_nrm;intro _ a;refine aa.OJ H j YP R R YY R R ?_ ?_
 ·intro h f;replace a:=a.trans f;clear f;have z:(((0:Nat):Int)) * KK=0:=YR;rw[z];clear z;have n1:=bc0;have n4:=bb0;walk_nrm;refine aa.st a ?_;clear a;refine aa.cV _ ?_;walk_nrm;refine aa.cE ?_;intro _ a;refine aa.aT a YR (λ_ _=>k8) ?_;clear a;intro _ a;refine aa.ie a YR R R H.f_uLoad R ?_;clear a;intro _ a;walk_nrm;refine aa.st a ?_;clear a;refine aa.cV _ ?_;walk_nrm;refine aa.cE ?_;refine aa.cS ?_;refine aa.cR ?_;refine aa.cV _ ?_;walk_nrm;refine aa.cV _ ?_;walk_nrm;refine aa.cV _ ?_;walk_nrm;refine aa.cV _ ?_;walk_nrm;refine aa.cE ?_;refine aa.cS ?_;refine aa.cR ?_;refine aa.cV _ ?_;walk_nrm;refine aa.cV _ ?_;walk_nrm;refine aa.cV _ ?_;walk_nrm;refine aa.cV _ ?_;walk_nrm;refine aa.cE ?_;refine aa.cS ?_;refine aa.cS ?_;refine aa.cR ?_;refine aa.cV _ ?_;walk_nrm;refine aa.cV _ ?_;walk_nrm;refine aa.cE ?_;intro _ a;refine aa.aT a YR (λ_ _=>j0 (t:=true) R) ?_;clear a;intro _ a;simp only[if_true];refine aa.aT a YR (λ_ _=>h9) ?_;clear a;intro _ a;refine aa.aT a YR (λ_ _=>j0 (t:=true) R) ?_;clear a;intro _ a;simp only[if_true];refine aa.st a ?_;clear a;refine aa.cS ?_;refine aa.cR ?_;intro _ a;refine aa.IE a YR (λ_ _=>y1 .enable YR R R YY R H.f_enable (x_enable_n L) (x_enable_b L) (x_enable_x L) (x_enable_f L)) ?_;clear a;intro _ a;walk_nrm;refine aa.st a ?_;clear a;refine aa.cE ?_;refine aa.cR ?_;refine aa.cV _ ?_;walk_nrm;intro _ a;refine aa.uM a YR R R YY R H.underlying_tWgP H.underlying_tUP H.room_tWg R (λ_ f=>pz j f.ok) ?_;clear a;intro _ a;walk_nrm;refine aa.NT a j (λ_ _=>w5 .acquire YR R R YY R H.f_acquire (x_acquire_n L) (x_acquire_b L) (x_acquire_x L) (x_acquire_f L) (by simp[B2,stA])) ?_;intro h o p;refine ae g _ h o p ?_ ⟨R,R⟩;clear a o p u g j;intro E m Sp Lg b g6 r c ph F w eJ q K;have a:RK E F w w:=RK.self q;clear q;walk_nrm;refine aa.st a ?_;clear a;refine aa.cE (eJ:=eJ) ?_;refine aa.cS (eJ:=eJ) ?_;refine aa.cS (eJ:=eJ) ?_;refine aa.cR (eJ:=eJ) ?_;refine aa.cV (eJ:=eJ) _ ?_;walk_nrm;refine aa.cV (eJ:=eJ) _ ?_;walk_nrm;refine aa.cV (eJ:=eJ) _ ?_;walk_nrm;refine aa.cV (eJ:=eJ) _ ?_;walk_nrm;refine aa.cV (eJ:=eJ) _ ?_;walk_nrm;refine aa.cV (eJ:=eJ) _ ?_;walk_nrm;refine aa.cV (eJ:=eJ) _ ?_;walk_nrm;refine aa.cV (eJ:=eJ) _ ?_;walk_nrm;refine aa.cU (eJ:=eJ) ?_;walk_nrm;refine aa.cU (eJ:=eJ) ?_;walk_nrm;refine aa.cV (eJ:=eJ) _ ?_;walk_nrm;refine aa.cE (eJ:=eJ) ?_;intro _ a;refine aa.aT a eJ (λ_ _=>j0 (t:=false) R) ?_;clear a;intro _ a;simp only[h6, ↓reduceIte];refine aa.aT a eJ (λ_ _=>l6) ?_;clear a;intro _ a;refine aa.aT a eJ (λ_ _=>k8) ?_;clear a;intro _ a;refine aa.kZ a eJ R R H.f_wait R ?_;omega
 ·intro h v f g7 g8 N;replace a:=a.trans f;clear f;obtain ⟨A,B⟩: ∃A:Int,(v:Int) * KK=A:=⟨_,R⟩;have a1:A / 4294967296=(v:Int):=by rw[<-B];simp only[KK];omega
  have b1:G7 .and .u64 A 2147483648=0:=by rw[<-B];have:=K3 v 0 YP YP;simpa[KK]using this
  have b2:G7 .and .u64 A 2147483647=0:=by rw[<-B];have:=D1 v 0 YP YP;simpa[KK]using this
  have c1:IntKind.i32.wrap (v:Int)=(v:Int):=by rw[F4];omega
  have h:IntKind.u64.wrap (A + 1)=A + 1:=by rw[y6,<-B];simp only[KK];omega
  have q3:decide ((v:Int)<0)=false:=YR;have q4:decide (0<(v:Int))=true:=decide_eq_true YP;have q5:((v:Int)==0)=false:=YT;have q6:decide ((v:Int)=0)=false:=YP;have n2:IntKind.u32.wrap 0=0:=YQ;rw[B];have D:=au B;clear B;walk_nrm;refine aa.st a ?_;clear a;refine aa.cV _ ?_;walk_nrm;refine aa.cE ?_;intro _ a;refine aa.aT a YR (λ_ _=>k8) ?_;clear a;intro _ a;refine aa.ie a YR R R H.f_uLoad R ?_;clear a;intro _ a;walk_nrm;refine aa.st a ?_;clear a;refine aa.cV _ ?_;walk_nrm;refine aa.cE ?_;refine aa.cS ?_;refine aa.cR ?_;refine aa.cV _ ?_;walk_nrm;refine aa.cV _ ?_;walk_nrm;refine aa.cV _ ?_;walk_nrm;refine aa.cV _ ?_;walk_nrm;refine aa.cE ?_;refine aa.cS ?_;refine aa.cR ?_;refine aa.cV _ ?_;walk_nrm;refine aa.cV _ ?_;walk_nrm;refine aa.cV _ ?_;walk_nrm;refine aa.cV _ ?_;walk_nrm;refine aa.cE ?_;refine aa.cS ?_;refine aa.cS ?_;refine aa.cR ?_;refine aa.cV _ ?_;walk_nrm;refine aa.cV _ ?_;walk_nrm;refine aa.cE ?_;intro _ a;refine aa.aT a YR (λ_ _=>j0 (t:=false) YV) ?_;clear a;intro _ a;simp only[h6, ↓reduceIte];refine aa.st a ?_;clear a;refine aa.cK ?_;refine aa.cS ?_;refine aa.cR ?_;refine aa.cV _ ?_;walk_nrm;refine aa.cV _ ?_;walk_nrm;refine aa.cV _ ?_;walk_nrm;refine aa.cV _ ?_;walk_nrm;refine aa.cV _ ?_;walk_nrm;refine aa.cV _ ?_;walk_nrm;intro _ a;refine aa.iG a YR R R YY R H.f_uCas (nm_uCas L) R ?_;clear a;intro _ a;walk_nrmf uCasFn
  refine aa.st a ?_;clear a;refine aa.cS ?_;refine aa.cR ?_;refine aa.cV _ ?_;walk_nrm;refine aa.cE ?_;refine aa.cS ?_;refine aa.cR ?_;refine aa.cV _ ?_;walk_nrm;refine aa.cV _ ?_;walk_nrm;refine aa.cV _ ?_;walk_nrm;refine aa.cV _ ?_;walk_nrm;refine aa.cV _ ?_;walk_nrm;intro _ a;refine aa.Qx H j YP R R YY R R (by rw[ae D];rfl) (by rw[ae D,<-h];rfl) ?_ ?_
  ·intro h f;replace a:=a.trans f;clear f;walk_nrm;refine aa.st a ?_;clear a;refine aa.cV _ ?_;walk_nrm;refine aa.cE ?_;intro _ a;refine aa.aT a YR (λ_ _=>k8) ?_;clear a;intro _ a;refine aa.ie a YR R R H.f_uCas R ?_;clear a;intro _ a;walk_nrm;refine aa.aT a YR (λ_ _=>h5) ?_;clear a;intro _ a;refine aa.aT a YR (λ_ _=>j0 (t:=true) R) ?_;clear a;intro _ a;simp only[if_true];refine aa.st a ?_;clear a;refine aa.cS ?_;refine aa.cS ?_;refine aa.cR ?_;refine aa.cV _ ?_;walk_nrm;refine aa.cV _ ?_;walk_nrm;refine aa.cV _ ?_;walk_nrm;refine aa.cV _ ?_;walk_nrm;refine aa.cE ?_;intro _ a;refine aa.aT a YR (λ_ _=>j0 (t:=true) R) ?_;clear a;intro _ a;simp only[if_true];refine aa.st a ?_;clear a;refine aa.cR ?_;refine aa.cV _ ?_;walk_nrm;refine aa.cV _ ?_;walk_nrm;refine aa.cV _ ?_;walk_nrm;intro _ a;refine aa.uM a YR R R YY R H.underlying_tPU32 H.underlying_tUP H.room_tU32 R (λ_ f=>uF j f.ok) ?_;clear a;intro _ a;walk_nrm;refine aa.JM a YR R j (.inr R) (λ_ _=>w5 .write YR R R YY R H.f_raceWrite (x_raceWrite_n L) (x_raceWrite_b L) (x_raceWrite_x L) (x_raceWrite_f L) (ad:=smA E.Wg) (by simp[B2,smA])) ?_;clear a;intro _ a;walk_nrm;refine aa.st a ?_;clear a;refine aa.cE ?_;refine aa.cS ?_;refine aa.cR ?_;refine aa.cV _ ?_;walk_nrm;refine aa.cE ?_;refine aa.cS ?_;refine aa.cS ?_;refine aa.cR ?_;refine aa.cV _ ?_;walk_nrm;refine aa.cV _ ?_;walk_nrm;refine aa.cV _ ?_;walk_nrm;refine aa.cV _ ?_;walk_nrm;refine aa.cU ?_;walk_nrm;refine aa.cV _ ?_;walk_nrm;refine aa.cE ?_;intro _ a;refine aa.aT a YR (λ_ _=>j0 (t:=false) R) ?_;clear a;intro _ a;simp only[h6, ↓reduceIte];refine aa.st a ?_;clear a;refine aa.cK ?_;refine aa.cS ?_;refine aa.cR ?_;refine aa.cV _ ?_;walk_nrm;refine aa.cV _ ?_;walk_nrm;refine aa.cV _ ?_;walk_nrm;refine aa.cV _ ?_;walk_nrm;intro _ a;refine aa.QT H j R R YY R (by simp[B2,smA]) ?_;intro h f;replace a:=a.trans f;clear f;walk_nrm;refine aa.st a ?_;clear a;refine aa.cE ?_;refine aa.cS ?_;refine aa.cR ?_;refine aa.cV _ ?_;walk_nrm;refine aa.cV _ ?_;walk_nrm;refine aa.cV _ ?_;walk_nrm;intro _ a;refine aa.iG a YR R R YY R H.f_uLoad (nm_uLoad L) R ?_;clear a;intro _ a;walk_nrmf uLoadFn
   refine aa.st a ?_;clear a;refine aa.cS ?_;refine aa.cR ?_;refine aa.cV _ ?_;walk_nrm;refine aa.cE ?_;refine aa.cS ?_;refine aa.cR ?_;refine aa.cV _ ?_;walk_nrm;refine aa.cV _ ?_;walk_nrm;refine aa.cV _ ?_;walk_nrm;intro _ a;refine aa.Lv H j YP R R YY R R ?_;intro h f;replace a:=a.trans f;clear f;walk_nrm;refine aa.st a ?_;clear a;refine aa.cV _ ?_;walk_nrm;refine aa.cE ?_;intro _ a;refine aa.aT a YR (λ_ _=>k8) ?_;clear a;intro _ a;refine aa.ie a YR R R H.f_uLoad R ?_;clear a;intro _ a;walk_nrm;refine aa.st a ?_;clear a;refine aa.cV _ ?_;walk_nrm;refine aa.cV _ ?_;walk_nrm;refine aa.cE ?_;refine aa.cS ?_;intro _ a;refine aa.aT a YR (λ_ _=>j0 (t:=true) R) ?_;clear a;intro _ a;simp only[if_true];refine aa.st a ?_;clear a;refine aa.cS ?_;refine aa.cR ?_;intro _ a;refine aa.IE a YR (λ_ _=>y1 .enable YR R R YY R H.f_enable (x_enable_n L) (x_enable_b L) (x_enable_x L) (x_enable_f L)) ?_;clear a;intro _ a;walk_nrm;refine aa.st a ?_;clear a;refine aa.cE ?_;refine aa.cR ?_;refine aa.cV _ ?_;walk_nrm;intro _ a;refine aa.uM a YR R R YY R H.underlying_tWgP H.underlying_tUP H.room_tWg R (λ_ f=>pz j f.ok) ?_;clear a;intro _ a;walk_nrm;refine aa.NT a j (λ_ _=>w5 .acquire YR R R YY R H.f_acquire (x_acquire_n L) (x_acquire_b L) (x_acquire_x L) (x_acquire_f L) (by simp[B2,stA])) ?_;intro h o p;refine ae g _ h o p ?_ ⟨R,R⟩;clear a o p u g j;intro E m Sp Lg b g6 r c ph F w eJ q K;have a:RK E F w w:=RK.self q;clear q;walk_nrm;refine aa.st a ?_;clear a;refine aa.cE (eJ:=eJ) ?_;refine aa.cS (eJ:=eJ) ?_;refine aa.cS (eJ:=eJ) ?_;refine aa.cR (eJ:=eJ) ?_;refine aa.cV (eJ:=eJ) _ ?_;walk_nrm;refine aa.cE (eJ:=eJ) ?_;intro _ a;refine aa.aT a eJ (λ_ _=>j0 (t:=false) R) ?_;clear a;intro _ a;simp only[h6, ↓reduceIte];refine aa.aT a eJ (λ_ _=>l6) ?_;clear a;intro _ a;refine aa.aT a eJ (λ_ _=>k8) ?_;clear a;intro _ a;refine aa.kZ a eJ R R H.f_wait R ?_;omega
  ·intro h v' f g9;replace a:=a.trans f;clear f;walk_nrm;refine aa.st a ?_;clear a;refine aa.cV _ ?_;walk_nrm;refine aa.cE ?_;intro _ a;refine aa.aT a YR (λ_ _=>k8) ?_;clear a;intro _ a;refine aa.ie a YR R R H.f_uCas R ?_;clear a;intro _ a;walk_nrm;refine aa.aT a YR (λ_ _=>h5) ?_;clear a;intro _ a;refine aa.aT a YR (λ_ _=>j0 (t:=false) R) ?_;clear a;intro _ a;simp only[h6, ↓reduceIte];refine aa.aT a YR (λ_ _=>l6) ?_;clear a;intro _ a;refine aa.aT a YR (λ_ _=>J3) ?_;clear a;intro _ a;refine aa.aT a YR (λ_ _=>stepG_inLoop) ?_;clear a;intro _ a;exact ae u v' YP _ _ YR YR a
theorem DQ (H:WgLib P L)(j:E.on)(f:E.ok w)(g: ∀h e,RK E F w e->(∀ (i:Nat)(L:bC),lg[i]? =S L-> ∃H,L H e)->JY P h (G (b₀.at (a₀.put ((ops₀[i₀]?).bind (·.dst)) (.tuple #[])) (.inRegion ops₀ rest₀::k₀)) cs)->Up h->End (.all e.heap.size E.S) h e e.heap.size):
  aa P E true Sp Lg End 0 r lg (.work false [] []) F (G ((base L.wait).at ⟨#[.pointer (S ⟨E.Wg,0,none⟩),U,U,U,U,U,U,U,U,U,U,U,U,U,U,U,U,U,U,U,U,U,U,U,U,U,U,U,U,U,U,U,U,U,U,U,U,U,U,U,U,U,U,U,U,U,U,U,U,U,U,U,U,U,U,U,U,U,U,U,U,U,U,U,U,U,U,U,U,U,U,U,U,U,U,U,U,U,U,U,U,U,U,U],[]⟩ [.code (body_wait L)]) (b₀.at a₀ (.inRegion ops₀ (i₀::rest₀)::k₀)::cs)) w:=by
 have k:=λn T e a b c=>qQ (Sp:=Sp) (Lg:=Lg) (r:=r) H j g n T e a b c;lib_facts
 simp only[L7,body_wait,waitFn,s6]at k ⊢;have d:RK E F w w:=RK.self f;clear f;refine aa.aT d YR (λ_ _=>h9) ?_;clear d;intro _ d;refine aa.aT d YR (λ_ _=>j0 (t:=true) R) ?_;clear d;intro _ d;simp only[if_true];refine aa.aT d YR (λ_ _=>stepG_region) ?_;clear d;intro _ d;refine aa.LH d YR (λ_ _=>y1 .disable YR R R YY R H.f_disable (x_disable_n L) (x_disable_b L) (x_disable_x L) (x_disable_f L)) ?_;clear d;intro _ d;walk_nrm;refine aa.aT d YR (λ_ _=>h5) ?_;clear d;intro _ d;refine aa.aT d YR (λ_ _=>B1) ?_;clear d;intro _ d;refine aa.aT d YR (λ_ _=>stepG_loop) ?_;clear d;intro _ d;refine aa.wait R j R λe n l=> ?_;exact k n _ e YR YR (d.trans l)
end
end
section
open Go.Conc.Lib Go.ConcR.Gen
open Go.ConcR (KK WgAt stA smA)
section
variable {P:Program}{E:Env}{Sp:ca->Tr->bC->List Ak->aq->Goroutine->World->Prop}{Lg:bC}{End:aq->Goroutine->World->Nat->Prop}{r:ca}{lg:List bC}{F:aq}{w:World}{L:WgLink}{b₀:Frame}{a₀:Act}{ops₀:Array Oper}{i₀:Nat}{rest₀:List Nat}{k₀:List Item}{cs:List Frame}{qt:Nat}
variable {E:Env}{F:aq}{a:ca->Tr->bC->List Ak->aq->Goroutine->World->Prop}{b:aq->Goroutine->World->Nat->Prop}{c:List bC}{f:bC}{g:ca}
theorem aa.Pe(j:RK E F C w)(k:E.on)(l: ∀d,RK E F C d->f F d)(h: ∀d,RK E F C d->j1 P false (G e s) d= .go (G O T) d #[l8 (.releaseMerge (stA E.Wg))])
  (K: ∀d,E.ok d->aa P E false a f b 0 g c .tail .none (G O T) d):aa P E false a f b 0 g c (.work false [] []) F (G e s) w:=
 aa.BY R k R ⟨R,R⟩ (λd i=>l d (j.trans i)) (λd i=>h d (j.trans i)) λd i=>K d i.ok
theorem xG{P:j6}{E:Env}{Sp:ca->Tr->bC->List Ak->aq->h8->World->Prop}{Lg:bC}{End:aq->h8->World->Nat->Prop}{r:ca}{lg:List bC}{F:aq}{w:World}{L:WgLink}{b₀:Frame}{a₀:Act}{ops₀:Array Oper}{i₀:Nat}{rest₀:List Nat}{k₀:List K2}{cs:List Frame}{qt:Nat} (H:WgLib P L)(h:E.on)(e:E.ok w)(k: ∀f,RK E F w f->Lg F f)(l:QuitsD P qt 0 (G (b₀.at (a₀.put ((ops₀[i₀]?).bind (·.dst)) (.tuple #[])) (.inRegion ops₀ rest₀::k₀)) cs)):
  aa P E false Sp Lg End 0 r lg (.work false [] []) F (G ((base L.add).at ⟨#[.pointer (S ⟨E.Wg,0,none⟩),.int .i64 (-1),U,U,U,U,U,U,U,U,U,U,U,U,U,U,U,U,U,U,U,U,U,U,U,U,U,U,U,U,U,U,U,U,U,U,U,U,U,U,U,U,U,U,U,U,U,U,U,U,U,U,U,U,U,U,U,U,U,U,U,U,U,U,U,U,U,U,U,U,U,U,U,U,U,U,U,U,U,U,U,U,U,U,U,U,U,U,U,U,U,U,U,U,U,U,U,U,U,U,U,U,U,U,U,U,U,U,U,U,U,U,U,U,U,U,U],[]⟩ [.code (body_add L)]) (b₀.at a₀ (.inRegion ops₀ (i₀::rest₀)::k₀)::cs)) w:=by
 lib_facts
 simp only[body_add,addFn,s6];have a:RK E F w w:=RK.self e;clear e;have n:=au l;clear l;have i:=au k;clear k;refine aa.aT a YR (λ_ _=>h9) ?_;clear a;intro _ a;refine aa.aT a YR (λ_ _=>j0 (t:=true) R) ?_;clear a;intro _ a;simp only[if_true];refine aa.st a ?_;clear a;refine aa.cS ?_;refine aa.cS ?_;refine aa.cR ?_;refine aa.cV _ ?_;walk_nrm;refine aa.cV _ ?_;walk_nrm;refine aa.cE ?_;intro _ a;refine aa.aT a YR (λ_ _=>j0 (t:=true) R) ?_;clear a;intro _ a;simp only[if_true];refine aa.st a ?_;clear a;refine aa.cR ?_;refine aa.cV _ ?_;walk_nrm;intro _ a;refine aa.uM a YR R R YY R H.underlying_tWgP H.underlying_tUP H.room_tWg R (λ_ c=>pz h c.ok) ?_;clear a;intro _ a;walk_nrm;refine aa.Pe a h (ae i) (λ_ _=>w5 .releaseMerge YR R R YY R H.f_relMerge (x_relMerge_n L) (x_relMerge_b L) (x_relMerge_x L) (x_relMerge_f L) (by simp[B2,stA])) ?_;clear a i;intro f e;have a:RK E .none f f:=RK.self e;clear e;walk_nrm;refine aa.st a ?_;clear a;refine aa.cE ?_;refine aa.cS ?_;refine aa.cR ?_;intro _ a;refine aa.LH a YR (λ_ _=>y1 .disable YR R R YY R H.f_disable (x_disable_n L) (x_disable_b L) (x_disable_x L) (x_disable_f L)) ?_;clear a;intro _ a;walk_nrm;refine aa.st a ?_;clear a;refine aa.cE ?_;refine aa.cR ?_;intro _ a;refine aa.aT a YR (λ_ _=>stepG_defer R R YY R) ?_;clear a;intro _ a;walk_nrm;refine aa.st a ?_;clear a;refine aa.cE ?_;refine aa.cS ?_;refine aa.cR ?_;refine aa.cV _ ?_;walk_nrm;refine aa.cE ?_;refine aa.cS ?_;refine aa.cS ?_;refine aa.cR ?_;intro _ a;refine aa.aT a YR (λ_ _=>F3 (.bool false) R R YY R H.f_inBubble (x_inBubble_n L) (x_inBubble_b L) (x_inBubble_x L) (x_inBubble_f L)) ?_;clear a;intro _ a;walk_nrm;refine aa.aT a YR (λ_ _=>h5) ?_;clear a;intro _ a;refine aa.aT a YR (λ_ _=>j0 (t:=false) R) ?_;clear a;intro _ a;simp only[h6, ↓reduceIte];refine aa.st a ?_;clear a;refine aa.cK ?_;refine aa.cS ?_;refine aa.cR ?_;refine aa.cV _ ?_;walk_nrm;refine aa.cV _ ?_;walk_nrm;refine aa.cV _ ?_;walk_nrm;refine aa.cV _ ?_;walk_nrm;refine aa.cV _ ?_;walk_nrm;refine aa.cV _ ?_;walk_nrm;intro _ a;refine aa.iG a YR R R YY R H.f_uAdd (nm_uAdd L) R ?_;clear a;intro _ a;walk_nrmf uAddFn
 refine aa.st a ?_;clear a;refine aa.cS ?_;refine aa.cR ?_;refine aa.cV _ ?_;walk_nrm;refine aa.cE ?_;refine aa.cS ?_;refine aa.cR ?_;refine aa.cV _ ?_;walk_nrm;refine aa.cV _ ?_;walk_nrm;refine aa.cV _ ?_;walk_nrm;refine aa.cV _ ?_;walk_nrm;intro _ a;refine aa.Mm H h YP R R YY R R YV ?_ ?_
 ·intro f c;replace a:=a.trans c;clear c;have z:(((0:Nat):Int)) * KK + ((1:Nat):Int)=1:=YR;rw[z];clear z;have y:=bc1;have A:IntKind.u32.wrap 1=1:=YQ;have B:=bb1;have C:IntKind.i32.wrap 0=0:=YQ;walk_nrm;refine aa.st a ?_;clear a;refine aa.cV _ ?_;walk_nrm;refine aa.cE ?_;intro _ a;refine aa.aT a YR (λ_ _=>k8) ?_;clear a;intro _ a;refine aa.ie a YR R R H.f_uAdd R ?_;clear a;intro _ a;walk_nrm;refine aa.st a ?_;clear a;refine aa.cV _ ?_;walk_nrm;refine aa.cE ?_;refine aa.cS ?_;refine aa.cS ?_;refine aa.cR ?_;refine aa.cV _ ?_;walk_nrm;refine aa.cV _ ?_;walk_nrm;refine aa.cV _ ?_;walk_nrm;refine aa.cV _ ?_;walk_nrm;refine aa.cU ?_;walk_nrm;refine aa.cU ?_;walk_nrm;refine aa.cV _ ?_;walk_nrm;refine aa.cE ?_;intro _ a;refine aa.aT a YR (λ_ _=>j0 (t:=false) R) ?_;clear a;intro _ a;simp only[h6, ↓reduceIte];refine aa.st a ?_;clear a;refine aa.cK ?_;refine aa.cS ?_;refine aa.cR ?_;refine aa.cV _ ?_;walk_nrm;refine aa.cV _ ?_;walk_nrm;refine aa.cV _ ?_;walk_nrm;refine aa.cV _ ?_;walk_nrm;refine aa.cE ?_;refine aa.cS ?_;refine aa.cR ?_;refine aa.cV _ ?_;walk_nrm;refine aa.cV _ ?_;walk_nrm;refine aa.cV _ ?_;walk_nrm;refine aa.cV _ ?_;walk_nrm;refine aa.cE ?_;refine aa.cS ?_;refine aa.cS ?_;refine aa.cR ?_;refine aa.cV _ ?_;walk_nrm;refine aa.cV _ ?_;walk_nrm;refine aa.cV _ ?_;walk_nrm;refine aa.cV _ ?_;walk_nrm;refine aa.cV _ ?_;walk_nrm;refine aa.cU ?_;walk_nrm;refine aa.cU ?_;walk_nrm;refine aa.cU ?_;walk_nrm;refine aa.cU ?_;walk_nrm;refine aa.cV _ ?_;walk_nrm;refine aa.cE ?_;intro _ a;refine aa.aT a YR (λ_ _=>j0 (t:=false) R) ?_;clear a;intro _ a;simp only[h6, ↓reduceIte];refine aa.st a ?_;clear a;refine aa.cK ?_;refine aa.cS ?_;refine aa.cS ?_;refine aa.cR ?_;refine aa.cV _ ?_;walk_nrm;refine aa.cV _ ?_;walk_nrm;refine aa.cE ?_;intro _ a;refine aa.aT a YR (λ_ _=>j0 (t:=false) R) ?_;clear a;intro _ a;simp only[h6, ↓reduceIte];refine aa.st a ?_;clear a;refine aa.cK ?_;refine aa.cS ?_;refine aa.cS ?_;refine aa.cR ?_;refine aa.cV _ ?_;walk_nrm;refine aa.cV _ ?_;walk_nrm;refine aa.cV _ ?_;walk_nrm;refine aa.cV _ ?_;walk_nrm;refine aa.cV _ ?_;walk_nrm;refine aa.cV _ ?_;walk_nrm;refine aa.cV _ ?_;walk_nrm;refine aa.cU ?_;walk_nrm;refine aa.cU ?_;walk_nrm;refine aa.cU ?_;walk_nrm;refine aa.cU ?_;walk_nrm;refine aa.cV _ ?_;walk_nrm;refine aa.cE ?_;intro _ a;refine aa.aT a YR (λ_ _=>j0 (t:=false) R) ?_;clear a;intro _ a;simp only[h6, ↓reduceIte];refine aa.st a ?_;clear a;refine aa.cK ?_;refine aa.cS ?_;refine aa.cS ?_;refine aa.cR ?_;refine aa.cV _ ?_;walk_nrm;refine aa.cV _ ?_;walk_nrm;refine aa.cV _ ?_;walk_nrm;refine aa.cV _ ?_;walk_nrm;refine aa.cV _ ?_;walk_nrm;refine aa.cV _ ?_;walk_nrm;refine aa.cE ?_;intro _ a;refine aa.aT a YR (λ_ _=>j0 (t:=false) R) ?_;clear a;intro _ a;simp only[h6, ↓reduceIte];refine aa.st a ?_;clear a;refine aa.cK ?_;refine aa.cS ?_;refine aa.cS ?_;refine aa.cR ?_;refine aa.cV _ ?_;walk_nrm;refine aa.cV _ ?_;walk_nrm;refine aa.cV _ ?_;walk_nrm;intro _ a;refine aa.iG a YR R R YY R H.f_uLoad (nm_uLoad L) R ?_;clear a;intro _ a;walk_nrmf uLoadFn
  refine aa.st a ?_;clear a;refine aa.cS ?_;refine aa.cR ?_;refine aa.cV _ ?_;walk_nrm;refine aa.cE ?_;refine aa.cS ?_;refine aa.cR ?_;refine aa.cV _ ?_;walk_nrm;refine aa.cV _ ?_;walk_nrm;refine aa.cV _ ?_;walk_nrm;intro _ a;refine aa.Ek H h YP R R YY R R ?_;intro f c;replace a:=a.trans c;clear c;walk_nrm;refine aa.st a ?_;clear a;refine aa.cV _ ?_;walk_nrm;refine aa.cE ?_;intro _ a;refine aa.aT a YR (λ_ _=>k8) ?_;clear a;intro _ a;refine aa.ie a YR R R H.f_uLoad R ?_;clear a;intro _ a;walk_nrm;refine aa.st a ?_;clear a;refine aa.cV _ ?_;walk_nrm;refine aa.cV _ ?_;walk_nrm;refine aa.cE ?_;intro _ a;refine aa.aT a YR (λ_ _=>j0 (t:=false) R) ?_;clear a;intro _ a;simp only[h6, ↓reduceIte];refine aa.st a ?_;clear a;refine aa.cK ?_;refine aa.cS ?_;refine aa.cR ?_;refine aa.cV _ ?_;walk_nrm;refine aa.cV _ ?_;walk_nrm;refine aa.cV _ ?_;walk_nrm;intro _ a;refine aa.iG a YR R R YY R H.f_uStore (nm_uStore L) R ?_;clear a;intro _ a;walk_nrmf uStoreFn
  refine aa.st a ?_;clear a;refine aa.cR ?_;refine aa.cV _ ?_;walk_nrm;refine aa.cV _ ?_;walk_nrm;refine aa.cV _ ?_;walk_nrm;refine aa.cV _ ?_;walk_nrm;intro _ a;refine aa.BF H h YP R R YY R R R ?_;intro f c;replace a:=a.trans c;clear c;walk_nrm;refine aa.aT a YR (λ_ _=>h5) ?_;clear a;intro _ a;refine aa.aT a YR (λ_ _=>stepG_end) ?_;clear a;intro _ a;refine aa.kZ a YR R R H.f_uStore R ?_;clear a;intro _ a;walk_nrm;refine aa.st a ?_;clear a;refine aa.cE ?_;refine aa.cS ?_;refine aa.cS ?_;refine aa.cR ?_;refine aa.cV _ ?_;walk_nrm;refine aa.cE ?_;intro _ a;refine aa.aT a YR (λ_ _=>j0 (t:=false) R) ?_;clear a;intro _ a;simp only[h6, ↓reduceIte];refine aa.aT a YR (λ_ _=>l6) ?_;clear a;intro _ a;refine aa.aT a YR (λ_ _=>B1) ?_;clear a;intro _ a;refine aa.aT a YR (λ_ _=>stepG_loop) ?_;clear a;intro _ a;refine aa.st a ?_;clear a;refine aa.cS ?_;refine aa.cS ?_;refine aa.cR ?_;refine aa.cV _ ?_;walk_nrm;refine aa.cV _ ?_;walk_nrm;refine aa.cE ?_;intro _ a;refine aa.aT a YR (λ_ _=>j0 (t:=true) R) ?_;clear a;intro _ a;simp only[if_true];refine aa.st a ?_;clear a;refine aa.cK ?_;refine aa.cS ?_;intro _ a;refine aa.aT a YR (λ_ _=>B1) ?_;clear a;intro _ a;refine aa.st a ?_;clear a;refine aa.cR ?_;refine aa.cV _ ?_;walk_nrm;refine aa.cV _ ?_;walk_nrm;refine aa.cV _ ?_;walk_nrm;intro _ a;refine aa.Iq H h R R YY R (by simp[B2,smA]) (mayWake_entry R R H.f_semrelease (x_semrelease_b L)) ?_;intro f c;refine aa.leave (q:=qt + 19) ?_;clear a c;walk_nrm;q_c h5
  q_c J3
  q_reg
  q_val (.int .u32 1)
  q_val (.int .u32 0)
  q_val (.int .u32 0)
  q_c h5
  q_c stepG_inLoop
  q_c h9
  q_c h9
  q_reg
  q_val (.int .u32 0)
  q_val (.bool false)
  q_c h5
  q_cond false
  q_exit
  q_c stepG_end
  q_enable
  q_leave0 H.f_add
  assumption
 ·intro f v m c o D g;refine aa.leave (q:=qt + 89) ?_;clear a c;obtain rfl | rfl:m=0\/m=1:=YP
  ·rcases Nat.eq_zero_or_pos v with rfl | j
   ·have z:(((0:Nat):Int)) * KK + ((0:Nat):Int)=0:=by simp
    rw[z];clear z g;walk_nrm;q_val (.int .u64 0)
    q_c h5
    q_c k8
    q_leave1 H.f_uAdd
    q_val (.int .u64 0)
    q_c h5
    q_c h9
    q_c h9
    q_reg
    q_val (.int .u64 0)
    q_val (.int .u64 0)
    q_val (.bool false)
    q_val (.bool false)
    q_skip
    q_skip
    q_val (.bool false)
    q_c h5
    q_cond false
    q_c l6
    q_c h9
    q_reg
    q_val (.int .u64 0)
    q_val (.int .u64 0)
    q_val (.int .i32 0)
    q_val (.int .i32 0)
    q_c h5
    q_c h9
    q_reg
    q_val (.int .u64 0)
    q_val (.int .u64 0)
    q_val (.int .u32 0)
    q_val (.int .u32 0)
    q_c h5
    q_c h9
    q_c h9
    q_reg
    q_val (.bool true)
    q_val (.int .i64 (-1))
    q_val (.bool false)
    q_val (.bool false)
    q_val (.bool false)
    q_skip
    q_skip
    q_skip
    q_skip
    q_val (.bool false)
    q_c h5
    q_cond false
    q_c l6
    q_c h9
    q_c h9
    q_reg
    q_val (.int .i32 0)
    q_val (.bool false)
    q_c h5
    q_cond false
    q_c l6
    q_c h9
    q_c h9
    q_reg
    q_val (.int .u32 0)
    q_val (.bool false)
    q_val (.bool false)
    q_skip
    q_skip
    q_val (.bool false)
    q_val (.bool false)
    q_skip
    q_skip
    q_skip
    q_skip
    q_val (.bool false)
    q_c h5
    q_cond false
    q_c l6
    q_c h9
    q_c h9
    q_reg
    q_val (.int .i32 0)
    q_val (.bool false)
    q_val (.bool false)
    q_val (.int .u32 0)
    q_val (.bool true)
    q_val (.bool true)
    q_c h5
    q_cond true
    q_c k8
    q_enable
    q_leave0 H.f_add
    assumption
   ·clear g;obtain ⟨b,d⟩: ∃b:Int,b=(v:Int) * KK + ((0:Nat):Int):=⟨_,R⟩;rw[<-d];have p:b / 4294967296=(v:Int):=by rw[d];simp only[KK];omega
    have s:0<=b/\b<9223372036854775808:=by rw[d];simp only[KK];omega
    have u:G7 .and .u64 b 2147483648=0:=by rw[d];have:=K3 v 0 YP YP;simpa[KK]using this
    have x:G7 .and .u64 b 2147483647=0:=by rw[d];have:=D1 v 0 YP YP;simpa[KK]using this
    clear d;walk_nrm;refine h4 (.int .u64 b) R R YY (λ_=>YW) (λ_=>YX) ?_;walk_nrm;q_c h5
    q_c k8
    q_leave1 H.f_uAdd
    refine h4 (.int .u64 b) R R YY (λ_=>YW) (λ_=>YX) ?_;walk_nrm;q_c h5
    q_c h9
    q_c h9
    q_reg
    refine h4 (.int .u64 b) R R YY (λ_=>YW) (λ_=>YX) ?_;walk_nrm;refine h4 (.int .u64 0) R R YY (λ_=>YW) (λ_=>YX) ?_;walk_nrm;refine h4 (.bool false) R R YY (λ_=>YW) (λ_=>YX) ?_;walk_nrm;refine h4 (.bool false) R R YY (λ_=>YW) (λ_=>YX) ?_;walk_nrm;q_skip
    q_skip
    refine h4 (.bool false) R R YY (λ_=>YW) (λ_=>YX) ?_;walk_nrm;q_c h5
    q_cond false
    q_c l6
    q_c h9
    q_reg
    refine h4 (.int .u64 b) R R YY (λ_=>YW) (λ_=>YX) ?_;walk_nrm;refine h4 (.int .u64 (v:Int)) R R YY (λ_=>YW) (λ_=>YX) ?_;walk_nrm;refine h4 (.int .i32 (v:Int)) R R YY (λ_=>YW) (λ_=>YX) ?_;walk_nrm;refine h4 (.int .i32 (v:Int)) R R YY (λ_=>YW) (λ_=>YX) ?_;walk_nrm;q_c h5
    q_c h9
    q_reg
    refine h4 (.int .u64 b) R R YY (λ_=>YW) (λ_=>YX) ?_;walk_nrm;refine h4 (.int .u64 0) R R YY (λ_=>YW) (λ_=>YX) ?_;walk_nrm;refine h4 (.int .u32 0) R R YY (λ_=>YW) (λ_=>YX) ?_;walk_nrm;refine h4 (.int .u32 0) R R YY (λ_=>YW) (λ_=>YX) ?_;walk_nrm;q_c h5
    q_c h9
    q_c h9
    q_reg
    refine h4 (.bool true) R R YY (λ_=>YW) (λ_=>YX) ?_;walk_nrm;refine h4 (.int .i64 (-1)) R R YY (λ_=>YW) (λ_=>YX) ?_;walk_nrm;refine h4 (.bool false) R R YY (λ_=>YW) (λ_=>YX) ?_;walk_nrm;refine h4 (.bool false) R R YY (λ_=>YW) (λ_=>YX) ?_;walk_nrm;refine h4 (.bool false) R R YY (λ_=>YW) (λ_=>YX) ?_;walk_nrm;q_skip
    q_skip
    q_skip
    q_skip
    refine h4 (.bool false) R R YY (λ_=>YW) (λ_=>YX) ?_;walk_nrm;q_c h5
    q_cond false
    q_c l6
    q_c h9
    q_c h9
    q_reg
    refine h4 (.int .i32 (v:Int)) R R YY (λ_=>YW) (λ_=>YX) ?_;walk_nrm;refine h4 (.bool false) R R YY (λ_=>YW) (λ_=>YX) ?_;walk_nrm;q_c h5
    q_cond false
    q_c l6
    q_c h9
    q_c h9
    q_reg
    refine h4 (.int .u32 0) R R YY (λ_=>YW) (λ_=>YX) ?_;walk_nrm;refine h4 (.bool false) R R YY (λ_=>YW) (λ_=>YX) ?_;walk_nrm;refine h4 (.bool false) R R YY (λ_=>YW) (λ_=>YX) ?_;walk_nrm;q_skip
    q_skip
    refine h4 (.bool false) R R YY (λ_=>YW) (λ_=>YX) ?_;walk_nrm;refine h4 (.bool false) R R YY (λ_=>YW) (λ_=>YX) ?_;walk_nrm;q_skip
    q_skip
    q_skip
    q_skip
    refine h4 (.bool false) R R YY (λ_=>YW) (λ_=>YX) ?_;walk_nrm;q_c h5
    q_cond false
    q_c l6
    q_c h9
    q_c h9
    q_reg
    refine h4 (.int .i32 (v:Int)) R R YY (λ_=>YW) (λ_=>YX) ?_;walk_nrm;refine h4 (.bool true) R R YY (λ_=>YW) (λ_=>YX) ?_;walk_nrm;refine h4 (.bool true) R R YY (λ_=>YW) (λ_=>YX) ?_;walk_nrm;q_skip
    q_skip
    refine h4 (.bool true) R R YY (λ_=>YW) (λ_=>YX) ?_;walk_nrm;q_c h5
    q_cond true
    q_c k8
    q_enable
    q_leave0 H.f_add
    assumption
  ·have j:0<v:=by omega
   clear g;obtain ⟨b,d⟩: ∃b:Int,b=(v:Int) * KK + ((1:Nat):Int):=⟨_,R⟩;rw[<-d];have p:b / 4294967296=(v:Int):=by rw[d];simp only[KK];omega
   have s:0<=b/\b<9223372036854775808:=by rw[d];simp only[KK];omega
   have u:G7 .and .u64 b 2147483648=0:=by rw[d];have:=K3 v 1 YP YP;simpa[KK]using this
   have x:G7 .and .u64 b 2147483647=1:=by rw[d];have:=D1 v 1 YP YP;simpa[KK]using this
   clear d;walk_nrm;refine h4 (.int .u64 b) R R YY (λ_=>YW) (λ_=>YX) ?_;walk_nrm;q_c h5
   q_c k8
   q_leave1 H.f_uAdd
   refine h4 (.int .u64 b) R R YY (λ_=>YW) (λ_=>YX) ?_;walk_nrm;q_c h5
   q_c h9
   q_c h9
   q_reg
   refine h4 (.int .u64 b) R R YY (λ_=>YW) (λ_=>YX) ?_;walk_nrm;refine h4 (.int .u64 0) R R YY (λ_=>YW) (λ_=>YX) ?_;walk_nrm;refine h4 (.bool false) R R YY (λ_=>YW) (λ_=>YX) ?_;walk_nrm;refine h4 (.bool false) R R YY (λ_=>YW) (λ_=>YX) ?_;walk_nrm;q_skip
   q_skip
   refine h4 (.bool false) R R YY (λ_=>YW) (λ_=>YX) ?_;walk_nrm;q_c h5
   q_cond false
   q_c l6
   q_c h9
   q_reg
   refine h4 (.int .u64 b) R R YY (λ_=>YW) (λ_=>YX) ?_;walk_nrm;refine h4 (.int .u64 (v:Int)) R R YY (λ_=>YW) (λ_=>YX) ?_;walk_nrm;refine h4 (.int .i32 (v:Int)) R R YY (λ_=>YW) (λ_=>YX) ?_;walk_nrm;refine h4 (.int .i32 (v:Int)) R R YY (λ_=>YW) (λ_=>YX) ?_;walk_nrm;q_c h5
   q_c h9
   q_reg
   refine h4 (.int .u64 b) R R YY (λ_=>YW) (λ_=>YX) ?_;walk_nrm;refine h4 (.int .u64 1) R R YY (λ_=>YW) (λ_=>YX) ?_;walk_nrm;refine h4 (.int .u32 1) R R YY (λ_=>YW) (λ_=>YX) ?_;walk_nrm;refine h4 (.int .u32 1) R R YY (λ_=>YW) (λ_=>YX) ?_;walk_nrm;q_c h5
   q_c h9
   q_c h9
   q_reg
   refine h4 (.bool true) R R YY (λ_=>YW) (λ_=>YX) ?_;walk_nrm;refine h4 (.int .i64 (-1)) R R YY (λ_=>YW) (λ_=>YX) ?_;walk_nrm;refine h4 (.bool false) R R YY (λ_=>YW) (λ_=>YX) ?_;walk_nrm;refine h4 (.bool false) R R YY (λ_=>YW) (λ_=>YX) ?_;walk_nrm;refine h4 (.bool false) R R YY (λ_=>YW) (λ_=>YX) ?_;walk_nrm;q_skip
   q_skip
   q_skip
   q_skip
   refine h4 (.bool false) R R YY (λ_=>YW) (λ_=>YX) ?_;walk_nrm;q_c h5
   q_cond false
   q_c l6
   q_c h9
   q_c h9
   q_reg
   refine h4 (.int .i32 (v:Int)) R R YY (λ_=>YW) (λ_=>YX) ?_;walk_nrm;refine h4 (.bool false) R R YY (λ_=>YW) (λ_=>YX) ?_;walk_nrm;q_c h5
   q_cond false
   q_c l6
   q_c h9
   q_c h9
   q_reg
   refine h4 (.int .u32 1) R R YY (λ_=>YW) (λ_=>YX) ?_;walk_nrm;refine h4 (.bool true) R R YY (λ_=>YW) (λ_=>YX) ?_;walk_nrm;refine h4 (.bool true) R R YY (λ_=>YW) (λ_=>YX) ?_;walk_nrm;refine h4 (.int .i64 (-1)) R R YY (λ_=>YW) (λ_=>YX) ?_;walk_nrm;refine h4 (.bool false) R R YY (λ_=>YW) (λ_=>YX) ?_;walk_nrm;refine h4 (.bool false) R R YY (λ_=>YW) (λ_=>YX) ?_;walk_nrm;refine h4 (.bool false) R R YY (λ_=>YW) (λ_=>YX) ?_;walk_nrm;q_skip
   q_skip
   q_skip
   q_skip
   refine h4 (.bool false) R R YY (λ_=>YW) (λ_=>YX) ?_;walk_nrm;q_c h5
   q_cond false
   q_c l6
   q_c h9
   q_c h9
   q_reg
   refine h4 (.int .i32 (v:Int)) R R YY (λ_=>YW) (λ_=>YX) ?_;walk_nrm;refine h4 (.bool true) R R YY (λ_=>YW) (λ_=>YX) ?_;walk_nrm;refine h4 (.bool true) R R YY (λ_=>YW) (λ_=>YX) ?_;walk_nrm;q_skip
   q_skip
   refine h4 (.bool true) R R YY (λ_=>YW) (λ_=>YX) ?_;walk_nrm;q_c h5
   q_cond true
   q_c k8
   q_enable
   q_leave0 H.f_add
   assumption
end
end
section
open Classical
section
variable {P:Program}{cs:Nat->Bool}{Q:Array Value->World->Prop}{fn:FuncId}
def Cut (b:m9)(a:Frame)(s:List Frame):Prop:= ∃x,a=ak b x []/\s= []
inductive LS (P:j6)(Q:Array h7->World->Prop)(fn:m9):Frame->List Frame->World->Prop
 | cut {x:Array h7} {v:World}:Q x v->LS P Q fn (ak fn x []) [] v
 | mk {a:Frame} {s:List Frame} {v:World}: ¬Cut fn a s->(∀tp d,∃a1 s1 v1 es,nq P a s v tp d= .go (G a1 (s1 ++ [cB])) v1 es)->(∀tp d a1 s1 v1 es,nq P a s v tp d= .go (G a1 (s1 ++ [cB])) v1 es->LS P Q fn a1 s1 v1)->LS P Q fn a s v
theorem LS.to(b: ∀x w a d,Q x w->Q x (aK w a d))(a:Nat->k9->Nat)(d:Nat)(h:LS P Q B e s w):LS P Q B e s (aK w a d):=by
 cases h with
 | cut h=>exact .cut (b _ _ _ _ h)
 | mk c h k=>exact .mk c h k
def ln (P:j6)(cs:Nat->Bool)(Q:Array h7->World->Prop)(a:m9):Type:={t:Frame×List Frame×World // oV P cs t.1 t.2.1 t.2.2/\ ¬LS P Q a t.1 t.2.1 t.2.2}
def PV (P:j6)(cs:Nat->Bool)(Q:Array h7->World->Prop)(b:m9)(a:Frame)(s:List Frame)(v:World)(c:Nat->k9->Nat)(d:Nat):Prop:=
 ¬Cut b a s/\ ∃ (t:Frame×List Frame×World×Nat),MI P cs a s v c d t.1 t.2.1 t.2.2.1 t.2.2.2/\ ¬LS P Q b t.1 t.2.1 t.2.2.1
def CI (P:j6)(cs:Nat->Bool)(Q:Array h7->World->Prop)(b:m9)(a:Frame)(s:List Frame)(v:World)(c:Nat->k9->Nat)(d:Nat):Prop:=
 (∃x,a=ak b x []/\s= []/\ ¬Q x v)\/(¬Cut b a s/\ ∀e f g h,¬MI P cs a s v c d e f g h)
theorem nZ (u: ∀x w a d,Q x w->Q x (aK w a d))(v: ¬LS P Q B e s w):
  ∃t:(Nat->Question->Nat)×Nat,PV P cs Q B e s w t.1 t.2\/CI P cs Q B e s w t.1 t.2:=by
 refine byContradiction λo=>v ?_;have g: ∀a d,¬PV P cs Q B e s w a d/\ ¬CI P cs Q B e s w a d:=λa d=>⟨λh=>o ⟨(a,d),.inl h⟩,λh=>o ⟨(a,d),.inr h⟩⟩;by_cases j:Cut B e s
 ·obtain ⟨x,rfl,rfl⟩:=j;by_cases p:Q x w
  ·exact .cut p
  ·exact absurd (.inl ⟨x,R,R,p⟩) (g w.tape 0).2
 ·have key: ∀a d,∃b c f m,nq P e s w a d= .go (G b (c ++ [cB])) f m/\LS P Q B b c f:=by intro a d;obtain ⟨y,z⟩:=g a d;have: ∃b c f i,MI P cs e s w a d b c f i:=byContradiction λh=>z (.inr ⟨j,λb c f i k=>h ⟨b,c,f,i,k⟩⟩);obtain ⟨b,c,f,i,k⟩:=this;obtain ⟨n,A⟩:=k.2 a d (.refl _ _ _);have q:LS P Q B b c f:=byContradiction λh=>y ⟨j,(b,c,f,i),k,h⟩;exact ⟨b,c,_,n,A,q.to u _ _⟩
  refine .mk j (λa d=> ?_) (λa d b c f m r=> ?_)
  ·obtain ⟨b,c,f,m,r,_⟩:=key a d;grind
  ·obtain ⟨D,E,F,C,l,q⟩:=key a d;rw[r]at l;injection l with l H
   obtain ⟨rfl,rfl⟩:=lA l;grind
theorem tk (g:Frame->Prop)(d: ∀a,g a->a.defers= []/\(∃f,P.funcs[a.fn]? =S f)/\ ∀c,a.raise c={a with mode:= .panicking c}): ∀ (s:List Frame)(a:Frame)(c:List PanicEntry)(v:World)(n:Nat)(fr:Frame)(w:World),(∀b∈s,g b)->g a->
  s7 P n (lone {a with mode:= .panicking c} (s ++ [cB]) v)= .next (lone fr [cB] w)->fr.mode≠ .run:=by
 intro s;induction s with
 | nil=>
  intro a c v n fr w _ h e;obtain ⟨i,⟨f,j⟩,_⟩:=d a h;cases n with
  | zero=>
   simp only[s7,m7]at e;injection e with _ e
   grind
  | succ n=>
   have k:J4 P (lone {a with mode:= .panicking c} ([] ++ [cB]) v)= .next (lone (cB.raise c) [] v):=step_lone_go (by simp[j1,I1,i,Frame.catches,j]);simp only[s7,k]at e;cases n with
   | zero=>
    simp only[s7,m7]at e;injection e with _ e
    grind
   | succ n=>have l: ∃o m,J4 P (lone (cB.raise c) [] v)= .ended o m:=⟨_,_,o8 (by simp[j1,I1,cB,Frame.raise,callDeferred];exact ⟨R,R⟩)⟩;obtain ⟨o,m,l⟩:=l;simp[s7,l]at e
 | cons b s q=>
  intro a c v n fr w p h e;obtain ⟨i,⟨f,j⟩,_⟩:=d a h;cases n with
  | zero=>
   simp only[s7,m7]at e;injection e with _ e
   grind
  | succ n=>have k:J4 P (lone {a with mode:= .panicking c} (b::s ++ [cB]) v)= .next (lone {b with mode:= .panicking c} (s ++ [cB]) v):=step_lone_go (by have:=(d b (p b (List.mem_cons_self))).2.2 c;simp[j1,I1,i,Frame.catches,j,this]);simp only[s7,k]at e;grind
theorem kt{a:World}(f:oV P h e s C){c:List PanicEntry}(g:s7 P d (lone {e with mode:= .panicking c} (s ++ [cB]) a)= .next (lone O [cB] w)):O.mode≠ .run:=by obtain ⟨r,_,i,j⟩:=f;exact tk (λe=> ∃b,FR P h r e b) (λe ⟨b,k⟩=>DS k) s e c a d O w (sT j) ⟨_,i⟩ g
theorem py(a:s7 P d (lone (cB.finish x) [] C)= .next (lone e [cB] w)):False:=by
 cases d with
 | zero=>simp only[s7,m7]at a;obtain ⟨_,c,_⟩:=kA a;cases c
 | succ d=>have b: ∃o f,J4 P (lone (cB.finish x) [] C)= .ended o f:=⟨_,_,o8 (by simp[j1,I1,cB,Frame.finish,callDeferred];exact ⟨R,R⟩)⟩;obtain ⟨o,g,b⟩:=b;simp[s7,b]at a
theorem BZ(j:oV P h (cP B y []) [] w){i:Nat->k9->Nat}(k:MI P h (cP B y []) [] w i d e s C q):False:=by
 obtain ⟨a,b⟩:=k.2 i d (.refl _ _ _);obtain ⟨r,_,l,_⟩:=j;obtain ⟨f,m⟩: ∃f,P.funcs[B]? =S f:=by cases l with | ret n=>exact n
 have o: ∀u,j1 P true (G (cP B y []) [cB]) u=(match (o7 f y).runT P u #[]with
   | (.ok c g,a)=>m8 (G4 P B a) (L1 P true (cP B y []) [cB] none c g)
   | (.halt (.stuck p) g,a)=>m8 (G4 P B a) (.ended (.stuck p ((cP B y []).pos P)) g)
   | (.halt _ g,a)=>m8 (G4 P B a) (.ended (.stuck "return: the result variables cannot be read" ((cP B y []).pos P)) g)):=λu=>by
  simp only[G,j1,I1,cP,m];grind
 unfold nq at b;rw[List.nil_append,o]at b;split at b
 ·simp[L1,cP,m8,G]at b
 ·simp[m8]at b
 ·simp[m8]at b
noncomputable def Al (a: ∀x v c d,Q x v->Q x (aK v c d))(b:ln P cs Q fn):(Nat->k9->Nat)×Nat:=m2 (nZ (cs:=cs) a b.2.2)
theorem FU (a: ∀x v c d,Q x v->Q x (aK v c d))(b:ln P cs Q B):PV P cs Q B b.1.1 b.1.2.1 b.1.2.2 (Al a b).1 (Al a b).2\/CI P cs Q B b.1.1 b.1.2.1 b.1.2.2 (Al a b).1 (Al a b).2:=q9 (nZ (cs:=cs) a b.2.2)
def EE (a: ∀x v c d,Q x v->Q x (aK v c d))(b:ln P cs Q fn):Prop:=PV P cs Q fn b.1.1 b.1.2.1 b.1.2.2 (Al a b).1 (Al a b).2
noncomputable def tb (a: ∀x v c d,Q x v->Q x (aK v c d))(b:ln P cs Q fn):ln P cs Q fn×Nat:=
 if h:EE a b then (⟨((m2 h.2).1,(m2 h.2).2.1,(m2 h.2).2.2.1),(q9 h.2).1.1,(q9 h.2).2⟩,(m2 h.2).2.2.2)else (b,0)
theorem BL (a: ∀x v c d,Q x v->Q x (aK v c d))(b:ln P h Q B)(e:EE a b):
  MI P h b.1.1 b.1.2.1 b.1.2.2 (Al a b).1 (Al a b).2 (tb a b).1.1.1 (tb a b).1.1.2.1 (tb a b).1.1.2.2 (tb a b).2:=by
 unfold tb;grind
noncomputable def eF (a: ∀x v c d,Q x v->Q x (aK v c d))(b:ln P cs Q fn):Nat->ln P cs Q fn×Nat
 | 0=>(b,0)
 | i + 1=>((tb a (eF a b i).1).1,(eF a b i).2 + (tb a (eF a b i).1).2)
theorem Fv (a: ∀x v c e,Q x v->Q x (aK v c e))(b:ln P h Q B)(f:d<=q):(eF a b d).2<=(eF a b q).2:=by
 induction f with
 | refl=>omega
 | step _ g=>exact n6 g (Nat.le_add_right _ _)
def xC (a: ∀x v c d,Q x v->Q x (aK v c d))(b:ln P cs Q fn)(j i:Nat):Prop:= ¬EE a (eF a b i).1\/j<(eF a b (i + 1)).2
def mL (a: ∀x v e d,Q x v->Q x (aK v e d))(b:ln P cs Q fn)(j i:Nat):Prop:=xC a b j i/\ ∀c,c<i-> ¬xC a b j c
theorem uT (c: ∀x v g i,Q x v->Q x (aK v g i))(b:ln P h Q B){a:Nat}(e:mL c b d q)(f:mL c b d a):q=a:=by
 rcases Nat.lt_trichotomy q a with k | k | k
 ·exact absurd e.1 (f.2 q k)
 ·exact k
 ·exact absurd f.1 (e.2 a k)
noncomputable def jh (a: ∀x v c d,Q x v->Q x (aK v c d))(b:ln P cs Q fn)(j:Nat)(q:k9):Nat:=
 if h: ∃i,mL a b j i then (Al a (eF a b (m2 h)).1).1 ((Al a (eF a b (m2 h)).1).2 + (j - (eF a b (m2 h)).2)) q else 0
theorem zY (a: ∀x v l d,Q x v->Q x (aK v l d))(b:ln P h Q B)(i:Nat)(m: ∀c,c<i->EE a (eF a b c).1)(j:Nat)(n:EE a (eF a b i).1->j<(tb a (eF a b i).1).2)(q:k9):
  jh a b ((eF a b i).2 + j) q=(Al a (eF a b i).1).1 ((Al a (eF a b i).1).2 + j) q:=by
 have o:xC a b ((eF a b i).2 + j) i:=by
  rcases Classical.em (EE a (eF a b i).1)with f | f
  ·right;show _<(eF a b i).2 + (tb a (eF a b i).1).2;have:=n f;omega
  ·exact .inl f
 have k:mL a b ((eF a b i).2 + j) i:=by
  refine ⟨o,λc g e=> ?_⟩;rcases e with e | e
  ·exact e (m c g)
  ·have:=Fv a b (show c + 1<=i by omega);omega
 have p: ∃c,mL a b ((eF a b i).2 + j) c:=⟨i,k⟩;have r:=uT a b (Classical.choose_spec p) k;unfold jh;grind
theorem vU (a: ∀x v k d,Q x v->Q x (aK v k d))(b:ln P h Q B)(l:b.1.2.1= []): ∀i,(∀c,c<i->EE a (eF a b c).1)->
  s7 P i (lone b.1.1 [cB] (aK b.1.2.2 (jh a b) 0))= .next (lone (eF a b i).1.1.1 ((eF a b i).1.1.2.1 ++ [cB]) (aK (eF a b i).1.1.2.2 (jh a b) (eF a b i).2)):=by
 intro i;induction i with
 | zero=>intro _;show Stepped.next _=Stepped.next (lone b.1.1 (b.1.2.1 ++ [cB]) _);rw[l];rfl
 | succ i m=>intro f;have n:=m λc o=>f c YP;have g:=f i YP;have p:=BL a _ g;obtain ⟨t,e⟩:=p.2 (jh a b) (eF a b i).2 λj q r=>zY a b i (λc o=>f c YP) j (λ_=>r) q;rw[runN_add P i 1,n];have:J4 P (lone (eF a b i).1.1.1 ((eF a b i).1.1.2.1 ++ [cB]) (aK (eF a b i).1.1.2.2 (jh a b) (eF a b i).2))= .next (lone (eF a b (i + 1)).1.1.1 ((eF a b (i + 1)).1.1.2.1 ++ [cB]) (aK (eF a b (i + 1)).1.1.2.2 (jh a b) (eF a b (i + 1)).2)):=step_lone_go (by have s:=congrArg GStep.bare e;exact s);simp[s7,this]
theorem pW (K:sG P h)(a: ∀x w D d,Q x w->Q x (aK w D d))(a6: ∀x w D d,Q x (aK w D d)->Q x w)(hG:oV P h e [] w)
  (hc: ∀D,∃N x I,s7 P N (lone e [cB] (aK w D 0))= .next (lone (ak B x []) [cB] I)/\Q x I):LS P Q B e [] w:=by
 refine byContradiction λhL=> ?_;let b:ln P h Q B:=⟨(e,[],w),hG,hL⟩;obtain ⟨N,x,I,hN,hq⟩:=hc (jh a b);have c:s7 P N (lone b.1.1 [cB] (aK b.1.2.2 (jh a b) 0))= .next (lone (ak B x []) [cB] I):=hN;have l: ∀ {s:List Frame},s ++ [cB]= [cB]->s= []:=YR;rcases Classical.em (∀i,i<=N->EE a (eF a b i).1)with m | a5
 ·have p:=vU a b R N λi J=>m i YP;rw[c]at p;injection p with p
  obtain ⟨p,h2,h3⟩:=kA p;exact (m N (Nat.le_refl _)).1 ⟨x,p.symm,l h2.symm⟩
 ·have L: ∃i,i<=N/\ ¬EE a (eF a b i).1/\ ∀i',i'<i->EE a (eF a b i').1:=by
   have h0: ∃i,i<=N/\ ¬EE a (eF a b i).1:=YS;obtain ⟨i,hi,O⟩:=h0;induction i using Nat.strongRecOn with
   | _ i ih=>grind
  obtain ⟨i,a7,O,E⟩:=L;have p:=vU a b R i E;have z:=(FU a (eF a b i).1).resolve_left O;have T: ∀n,CB n (jh a b) (eF a b i).2 (Al a (eF a b i).1).1 (Al a (eF a b i).1).2:=λn j q _=>(zY a b i E j (λJ=>absurd J O) q).symm;obtain ⟨M,rfl⟩: ∃M,N=i + M:=⟨N - i,YP⟩;rw[runN_add P i M,p]at c;dsimp only at c;have f:=(eF a b i).1.2.1;rcases z with ⟨y,V,e2,a8⟩ | ⟨W,X⟩
  ·cases M with
   | zero=>
    simp only[s7,m7]at c;obtain ⟨t,g2,g3⟩:=kA c;rw[V]at t;have:y=x:=by injection t
    grind
   | succ M=>
    rcases classify K f (jh a b) (eF a b i).2 with ⟨o,k,u,g⟩ | ⟨F,k,u,g⟩ | ⟨a1,v,k,G,Y⟩ | ⟨y',k,G,Z⟩
    ·have:=o8 (congrArg GStep.bare g);simp[s7,this]at c
    ·have:J4 P (lone (eF a b i).1.1.1 ((eF a b i).1.1.2.1 ++ [cB]) (aK (eF a b i).1.1.2.2 (jh a b) (eF a b i).2))= .next (lone {(eF a b i).1.1.1 with mode:= .panicking F} ((eF a b i).1.1.2.1 ++ [cB]) k):=step_lone_go (congrArg GStep.bare g);simp only[s7,this]at c;exact kt f c R
    ·
     have v:J4 P (lone (ak B y []) [cB] (aK (eF a b i).1.1.2.2 (jh a b) (eF a b i).2))= .next (lone (cP B y []) [cB] (aK (eF a b i).1.1.2.2 (jh a b) (eF a b i).2)):=step_lone_go YV;rw[V,e2]at c;simp only[s7,List.nil_append,v]at c;cases M with
     | zero=>
      simp only[s7,m7]at c;obtain ⟨t,_,_⟩:=kA c;injection t with _ _ _ _ t
      cases t
     | succ M=>
      have A:oV P h (cP B y []) [] (eF a b i).1.1.2.2:=by
       obtain ⟨r,r1,r2,r3⟩:=f;rw[V]at r2;refine ⟨r,r1,?_,.nil⟩;cases r2 with
       | run k1 k2 k3=>exact .ret k1 k2 k3
      rcases classify K A (jh a b) (eF a b i).2 with ⟨o,C,u,g⟩ | ⟨F,C,u,g⟩ | ⟨a2,s2,C,H,a0⟩ | ⟨y2,C,H,a3⟩
      ·have:J4 P (lone (cP B y []) [cB] (aK (eF a b i).1.1.2.2 (jh a b) (eF a b i).2))= .ended o C:=o8 (congrArg GStep.bare g);simp[s7,this]at c
      ·have:J4 P (lone (cP B y []) [cB] (aK (eF a b i).1.1.2.2 (jh a b) (eF a b i).2))= .next (lone {(cP B y [])with mode:= .panicking F} ([] ++ [cB]) C):=step_lone_go (congrArg GStep.bare g);simp only[s7,this]at c;exact kt A c R
      ·exact BZ A a0
      ·obtain ⟨u,g⟩:=a3 _ _ (.refl _ _ _);have:J4 P (lone (cP B y []) [cB] (aK (eF a b i).1.1.2.2 (jh a b) (eF a b i).2))= .next (lone (cB.finish y2) [] (aK C (jh a b) ((eF a b i).2 + H))):=step_lone_go (congrArg GStep.bare g);simp only[s7,this]at c;exact py c
    ·obtain ⟨u,g⟩:=Z _ _ (.refl _ _ _);have v:=step_lone_go (congrArg GStep.bare g);simp only[s7,v]at c;exact py c
  ·cases M with
   | zero=>simp only[s7,m7]at c;obtain ⟨t,g2,_⟩:=kA c;exact W ⟨x,t,l g2⟩
   | succ M=>
    rcases classify K f (jh a b) (eF a b i).2 with ⟨o,k,u,g⟩ | ⟨F,k,u,g⟩ | ⟨a1,v,k,G,Y⟩ | ⟨y,k,G,Z⟩
    ·have:=o8 (congrArg GStep.bare g);simp[s7,this]at c
    ·have:J4 P (lone (eF a b i).1.1.1 ((eF a b i).1.1.2.1 ++ [cB]) (aK (eF a b i).1.1.2.2 (jh a b) (eF a b i).2))= .next (lone {(eF a b i).1.1.1 with mode:= .panicking F} ((eF a b i).1.1.2.1 ++ [cB]) k):=step_lone_go (congrArg GStep.bare g);simp only[s7,this]at c;exact kt f c R
    ·exact X a1 v k G ⟨Y.1,λa4 d' J=>Y.2 a4 d' λj q hj=>(J j q hj).trans (T G j q hj)⟩
    ·obtain ⟨u,g⟩:=Z _ _ (.refl _ _ _);have v:=step_lone_go (congrArg GStep.bare g);simp only[s7,v]at c;exact py c
end
end
