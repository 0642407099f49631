/- WholeBanks: part 4. -/
import Derived.Test.YtheopdnafbkhpaaQa
import Derived.Test.YtheopdnafbkhpaaQ3
import Derived.RangeFuncRecord
set_option maxRecDepth 100000
set_option maxHeartbeats 8000000
set_option linter.unusedVariables false
set_option linter.unusedSimpArgs false
open Array renaming ext_getElem?->N3,getD_eq_getD_getElem?->J3,getElem?_eq_getElem->J7,getElem?_eq_some_iff->K7,getElem?_setIfInBounds->J1,replicate->J5
open Bool renaming false_eq_true->J6
open Go renaming Addr->O4,Calls->R0,Code->K9,Goroutine->P9,Operand->K1,Oper->Q0,TypeId->P0,Value->J8,callFunc->Q5,execOp->J4,getD_set_ne->M5,getObj->P2,info_parts->M7,invoke->Q2,resolve->O6,run_getObj_loop->M0,run_makeSlice->P7,setObj->Q8,size_madeCells->P1,stepG->K3,undef->U
open Go.Act renaming eval_put->N9,eval->J2
open Go.Code renaming region->O3
open Go.Deferred renaming ofValue->K8
open Go.FloatKind renaming f64->R4
open Go.Frame renaming eval->N5,oper?->Q7
open Go.GStep renaming after->L5
open Go.Instr renaming beginRound->O2,endLoop->P8,endRound->P5,getLoop->M6,indexAt->N0,loadAt->M1,takeDeferred->N6,yield->Q6
open Go.IntKind renaming i64->R6
open Go.Region renaming binds->K4,schedule->K6,wanted->L1
open Go.Sem renaming events->N4,runT_eq->Q4,runT->P4
open Go.Value renaming complex->R3,int->R5,pointer->R8,slice->R7
open Go.Value.slice renaming injEq->R1
open Go.World renaming cell?_of_block->M9,cell?->L9,frozen?->L8
open Go.stepG renaming exec->L3,oper->Q9
open Int renaming le_refl->Q3,toNat_natCast->N8
open List renaming all_eq_true->O0,map_cons->P6,map_nil->Q1,map_toArray->O1,mem_range->O7,range->N2
open Nat renaming le_refl->L4,le_trans->M4,lt_of_lt_of_le->J9,not_lt_zero->O5,not_lt->M8
open Option renaming getD_some->L6,map_some->K5,some->S
open Option.some renaming injEq->N7,inj->L2
namespace Go.Proofs.Ytheopdnafbkhpaa
open Go.Conc Go.ConcN Go.RowKit
variable {A J N V W i m n:Nat}{B T Z:Nat->Nat}{C:Sx}{D:bC}{E:Env}{F:aq}{H:Nat->Value}{I:Array Bool->CO->Prop}{L:Nat->Prop}{M:Frame}{O:Loop}{P:Program}{Q:Addr}{X:Nat->C2}{Y:Nat->Nat->C2}{a:aq->Goroutine->World->Nat->Prop}{b:Option Addr}{c:ca->Tr->bC->List Ak->aq->Goroutine->World->Prop}{d:Operand->Value}{e:aU}{f:FuncId}{g:Nat->Option Obj}{h:Nat->Nat->dM}{j:cH}{k:List Item}{l:List Frame}{o:Oper}{p:Bool}{q:Option Nat×List Deferred}{r:Array Oper}{s:ca}{t:Value->World->Prop}{u:Value}{v w:World}{x:Operand}{y:Array Value}{z:List bC}
theorem Zs{p:Prop}(h:p:=by kernel_rfl):p:=h
theorem Zt{p:Prop}(h:p:=by simp[Ph.late]):p:=h
theorem Zu{p:Prop}(h:p:=by unfold maxLen;omega):p:=h
theorem Zv{p:Prop}(h:p:=by go_simp):p:=h
theorem Zw{p:Prop}(h:p:=by rw[IntKind.wrap_i64];omega):p:=h
section
open Go.Conc.Lib
open Go.ConcR (KK WgAt stA smA)
section
variable {Fin:aq->Goroutine->World->Nat->Prop}{ad:Option Addr}{Gn:Nat->C2}{c:Frame}
theorem DD (r2:fT e)(hF:mq v A n B T H Z h Gn)(hl:bj v (.slice ad m W) m X)(hm:m<=1000000)(hn:n<=1000)
  (hK: ∀S' f0 k F' w' b z,S'.lq C->Ext e f0->At (E0 S') f0 k F' bO w'->aA v k->dy k b m (Yp Z Gn h X n)->VR f0 (R7 (some ⟨b,0,none⟩) m m) z->cO Fin S' F' (G (c.finish (.tuple #[z,R5 R6 0])) l) w')
  (f:At (E0 C) e v F bO w)(hv:aB e #[R7 (some ⟨A,0,none⟩) n J,.slice ad m W] y):
  cO Fin C F (G (ak 16 (y ++ J5 52 U) [.code Nc]) (c::l)) w:=by
 have l3:Nc=Nc:=rfl;have eL:mw=mw:=rfl;have eT:xh=xh:=rfl;conv at l3=>rhs;unfold Nc;simp only[Try.f16]
 conv at eL=>rhs;unfold mw;simp only[Try.f16]
 conv at eT=>rhs;unfold xh;simp only[Try.f16]
 rw[l3];have b3:=hv.ei 52;rw[Po]at b3;refine aa.ah f λw f=> ?_;refine aa.ej (Q:=λx' k=>x'= #[R7 (some ⟨A,0,none⟩) n J,.slice ad m W,U,R8 (some ⟨v.heap.size,0,none⟩),.slice none 0 0,R5 R6 0,U,U,U,U,U,U,U,U,U,U,U,U,U,U,U,U,U,U,U,U,U,U,U,U,U,U,U,U,U,U,U,U,U,U,U,U,U,U,U,U,U,U,U,U,U,U,U,U]/\k.heap=v.heap.push (.cells #[.slice ad m W] 24)) bh ⟨_,Try.func16⟩ Zt Zs YU YU f b3 (λtp=> ?_) ?_
 ·clear hl hF hK hv b3;go_wp2
  exact ⟨rfl,rfl⟩
 rintro z9 x1 y1 v1 w1 F1 r3 A0 ⟨rfl,I⟩ f f1;have p:=ar.push I;have b4:=Bx.new I;have f5:v1.heap.size=v.heap.size + 1:=by rw[I];simp
 refine aa.ah f λw f=> ?_;refine aa.ej (Q:=λx' k=> ∃o l2 L,x'= #[R7 (some ⟨A,0,none⟩) n J,.slice ad m W,U,R8 (some ⟨v.heap.size,0,none⟩),.slice none 0 0,R5 R6 0,R7 (some ⟨o,0,none⟩) n n,R5 R6 0,U,U,U,U,U,U,U,U,U,.tuple #[R7 (some ⟨o,0,none⟩) n n,R5 R6 0],R7 (some ⟨A,0,none⟩) n J,.tuple #[R7 (some ⟨o,0,none⟩) n n,R5 R6 0],R7 (some ⟨o,0,none⟩) n n,R5 R6 0,U,U,U,U,U,U,U,U,U,U,U,U,U,U,U,U,U,U,U,U,U,U,U,U,U,U,U,U,U,U,U,U]/\ ∃z z':World,z.heap=v1.heap/\z'.heap=k.heap/\AR z z' o n Z h Gn l2 L) bh ⟨_,Try.func16⟩ Zt Zs YU YU f f1 (λtp=> ?_) ?_
 ·have Hr:=au (qm (c:=J) (w:=aK v1 tp 0) (hF.av (p.av.trans (aA.heap rfl))) hn);clear hl hF hK hv b3 f1 I p b4 f5;go_wp2_with (go_at_call 33;refine (ae Hr).mono ?_;rintro C1 w6 ⟨o,l2,L,rfl,r4⟩)
  exact ⟨l2,L,aK v1 tp 0,rfl,_,rfl,r4⟩
 rintro A1 x2 y2 v2 w2 F2 r5 A2 ⟨o,l2,L,rfl,z1,z2,f2,b5,K⟩ f i6;have P:ar v1 v2:=by have g:=ar.ba K.low (Nat.le_refl _);exact ⟨by rw[<-f2,<-b5];exact g.1,λb hb=>by rw[<-f2,<-b5];exact g.2 b YS⟩
 have l4:v1.heap.size<=o/\o<v2.heap.size:=by rw[<-f2,<-b5];exact K.lt
 have b6: ∀i,i<n->v2.cell? ⟨o,i,none⟩=some (R8 (some ⟨l2 i,0,none⟩)):=λi hi=>by have:=K.cell i hi;unfold World.cell? at this ⊢;grind
 have b7:=λi hi=>(K.dp i hi).heap b5.symm;have f6:=K.new;have f7:=K.lN;have b8:=K.mH;clear K f2 b5;refine aa.ah f λw f=> ?_;refine aa.ej (Q:=λx' k=>x'.size=54/\x'[3]? =some (ptr v.heap.size)/\x'[6]? =some (R7 (some ⟨o,0,none⟩) n n)/\k.heap=v2.heap) bh ⟨_,Try.func16⟩ Zt Zs YU YU f i6 (λtp=> ?_) ?_
 ·clear hl hF hK hv b3 f1 I p b4 f5 i6 P l4 b6 b7 f6 f7 b8;go_wp2
  exact ⟨rfl,rfl⟩
 rintro f3 x3 y3 v3 w3 F3 r6 A3 ⟨f8,s3,s6,f9⟩ f i7;have Y:=ar.heap f9;have g0:=(r3.trans r5).trans r6;have l5:=r2.ext g0;have r7:=(b4.keep P).keep Y;have g1:=(p.trans P).trans Y;obtain ⟨A',_,r8⟩:=(i7.ev s6).iO;refine aa.ah f λw f=> ?_;refine aa.aC f λw f=> ?_;refine aa.Da (b:=base 16) (a:=⟨y3,[]⟩) (i:=0) (rest:= []) (.cells #[.int .u64 0,.int .u32 0] 101) rfl rfl (by simp[base]) (λ_=>Zv) (λ_=>YV) λD k4=> ?_;replace f:=f.rely k4;obtain ⟨Lr,v0,F0,v4,hb,l6,b9,s0,j,A4,z4,l7,s1,hJ,M,l8⟩:=f.zy (V:=Vp Z Gn h X) (N:=v.heap.size + 1) r8 YP YS (λi hi=>Y.cell (b6 i hi)) (λi hi=>(b7 i hi).heap f9) f6 f7 b8;have l9:=(M.fg.out D.heap.size (.inr ⟨trivial,rfl⟩)).2;have s2:WgAt 101 D.heap.size (D.alloc (.cells #[.int .u64 0,.int .u32 0] 101)) 0 0:=by show (D.heap.push _)[D.heap.size]? =_;simp;rfl
 refine Way.phase (V:=Vp Z Gn h X) (Wg:=D.heap.size) (pl:=wS m n 0) (s:=zP n m 0) s2 (Nat.le_refl _) l8 M.fg.ok l9 (by rw[zV];omega) (λq hq=>EK n m q hq) ?_;change aa Try.prog (E1 (Vp Z Gn h X) C D.heap.size) true (mC Try.prog (E1 (Vp Z Gn h X) C D.heap.size)) (λ_ _=>True) (Way Try.prog Fin (C.add D.heap.size)) 0 (λ_=>none) [] (.work false (wS m n 0) (zP n m 0)) _ (G (ak 16 (y3.setIfInBounds 8 (R8 (some ⟨D.heap.size,0,none⟩))) (.inRegion _ []::_)) (c::l)) _;have m0:aA v v0:=⟨Nat.le_trans g1.1 s0,λa u g=>b9 a u (by have:=cy g;omega) (g1.cell g)⟩;have m1:=b9 ⟨v.heap.size,0,none⟩ _ YR r7.cell;have s4:=f.bQ.size;have c1:=(aB.mono (gB f3 D.heap.size) i7).put (d:=some 8) (show VR (f3.push (D.heap.size,.cells)) (ptr v3.heap.size) (R8 (some ⟨D.heap.size,0,none⟩))from .ptr ⟨by show (f3.push _)[v3.heap.size]? =_;rw[s4];simp,rfl,rfl⟩);change aB _ (x3.setIfInBounds 8 (ptr v3.heap.size)) (y3.setIfInBounds 8 (R8 (some ⟨D.heap.size,0,none⟩)))at c1;have i8:(x3.setIfInBounds 8 (ptr v3.heap.size)).size=54:=by simpa using f8
 have m2:=ab (d:=8) (u:=ptr v3.heap.size) s3 YQ;have m3:=ab (d:=8) (u:=ptr v3.heap.size) s6 YQ;have m4:=aE (u:=ptr v3.heap.size) f8 (show 8<54 by decide);generalize x3.setIfInBounds 8 (ptr v3.heap.size)=x4 at c1 i8 m2 m3 m4;generalize y3.setIfInBounds 8 (R8 (some ⟨D.heap.size,0,none⟩))=y4 at c1 ⊢;generalize z5:f3.push (D.heap.size,BK.cells)=c2 at c1 hJ M;have A5:v4.heap.size<=v4.heap.size:=Nat.le_refl _;have A6:=hb;have s5:=l6;generalize D.alloc (.cells #[.int .u64 0,.int .u32 0] 101)=w5 at M ⊢;clear f i7 i6 f1 b3;refine aa.aH M λw f=> ?_;refine aa.ah f λw f=> ?_;refine aa.aC f λw f=> ?_;refine aa.zO (c:=0) (i:=0) (dd:=25) rfl f c1 rfl rfl rfl rfl rfl λw X0 f c3=> ?_;have m5:ar v4 (zq v4):=ar.push rfl;have i9:=hJ.low j (ja c2 (X0,BK.chan)) (dV.of m5 (Nat.le_refl _));have j0:(c2.push (X0,BK.chan))[c2.size]? =some (X0,.chan):=YR;generalize A7:c2.size=b0 at c3 j0;have j1:(x4.setIfInBounds 25 (.chan (some b0))).size=54:=by simpa using i8
 have m6:=ab (d:=25) (u:= .chan (some b0)) m2 YQ;have m7:=ab (d:=25) (u:= .chan (some b0)) m3 YQ;have m8:=ab (d:=25) (u:= .chan (some b0)) m4 YQ;have m9:=aE (u:= .chan (some b0)) i8 (show 25<54 by decide);generalize x4.setIfInBounds 25 (.chan (some b0))=x5 at c3 j1 m6 m7 m8 m9;generalize y4.setIfInBounds 25 (.chan (some X0))=y5 at c3 ⊢;generalize c2.push (X0,BK.chan)=A8 at f c3 i9 j0;have j2:=m5.1;generalize zq v4=v5 at f i9 j2;refine aa.fP (i:=1) (R:=λu k=>u= .chan (some b0)/\k.heap=v5.heap) bh ⟨_,Try.func16⟩ Zt rfl rfl Zs YU YU f c3 (λtp=>jj rfl (ay m9) ⟨rfl,rfl⟩) ?_;rintro A9 y6 v6 w F6 u6 n0 s7 ⟨rfl,n1⟩ f j3;have n2:=m6;have n3:=m7;have n4:=m8;have j4:(x5.setIfInBounds 9 (.chan (some b0))).size=54:=by simpa using j1
 have g2:=ab (d:=9) (u:= .chan (some b0)) n2 YQ;have g3:=ab (d:=9) (u:= .chan (some b0)) n3 YQ;have g4:=ab (d:=9) (u:= .chan (some b0)) n4 YQ;have c4:=aE (u:= .chan (some b0)) j1 (show 9<54 by decide);change aB _ (x5.setIfInBounds 9 (.chan (some b0))) _ at j3;generalize x5.setIfInBounds 9 (.chan (some b0))=x6 at j3 j4 g2 g3 g4 c4;have n5:=ar.heap n1;have s8:=i9.low j n0.w (dV.of n5 j2);have n6:=Nat.le_trans j2 n5.1;have s9:=n0 _ _ j0;have n7:=s1.le s7;refine aa.aH f λw f=> ?_;refine aa.ah f λw f=> ?_;refine aa.aC f λw f=> ?_;refine aa.fP (i:=0) (R:=λu k=>u= .chan (some b0)/\k.heap=v6.heap) bh ⟨_,Try.func16⟩ Zt rfl rfl Zs YU YU f j3 (λtp=>aJ rfl (ay c4) ⟨rfl,rfl⟩) ?_;rintro B0 y7 O w F7 u7 n8 t0 ⟨rfl,n9⟩ f j5;have j6:(x6.setIfInBounds 26 (.chan (some b0))).size=54:=by simpa using j4
 have g5:=ab (d:=26) (u:= .chan (some b0)) g2 YQ;have g6:=ab (d:=26) (u:= .chan (some b0)) g3 YQ;have g7:=ab (d:=26) (u:= .chan (some b0)) g4 YQ;have g8:=ab (d:=26) (u:= .chan (some b0)) c4 YQ;have c5:=aE (u:= .chan (some b0)) j4 (show 26<54 by decide);change aB _ (x6.setIfInBounds 26 (.chan (some b0))) _ at j5;generalize x6.setIfInBounds 26 (.chan (some b0))=x7 at j5 j6 g5 g6 g7 g8 c5;have o0:=ar.heap n9;have t1:=s8.low j n8.w (dV.of o0 n6);have j7:=Nat.le_trans n6 o0.1;have t2:=n8 _ _ s9;have o1:=n7.le t0;refine aa.fP (i:=1) (R:=λu k=>u=ptr O.heap.size/\k.heap=O.heap.push (.cells #[.chan none] 102)) bh ⟨_,Try.func16⟩ Zt rfl rfl Zs YU YU f j5 (λtp=>aL (ll rfl sX) ⟨rfl,rfl⟩) ?_;rintro B1 y8 v8 w F8 u8 o2 t3 ⟨rfl,g9⟩ f j8;have o3:(x7.setIfInBounds 10 (ptr O.heap.size)).size=54:=by simpa using j6
 have h0:=ab (d:=10) (u:=ptr O.heap.size) g5 YQ;have h1:=ab (d:=10) (u:=ptr O.heap.size) g6 YQ;have h2:=ab (d:=10) (u:=ptr O.heap.size) g7 YQ;have h3:=ab (d:=10) (u:=ptr O.heap.size) g8 YQ;have a0:=ab (d:=10) (u:=ptr O.heap.size) c5 YQ;have a1:=aE (u:=ptr O.heap.size) j6 (show 10<54 by decide);change aB _ (x7.setIfInBounds 10 (ptr O.heap.size)) _ at j8;generalize x7.setIfInBounds 10 (ptr O.heap.size)=x8 at j8 o3 h0 h1 h2 h3 a0 a1;have o4:=ar.push g9;have t4:=t1.low j o2.w (dV.of o4 j7);have t5:=Nat.le_trans j7 o4.1;have t6:=o2 _ _ t2;have o5:=o1.le t3;have j9:=Bx.new g9;refine aa.fP (i:=2) (R:=λu k=>k.heap=(v8.setCell ⟨O.heap.size,0,none⟩ (.chan (some b0))).heap) bh ⟨_,Try.func16⟩ Zt rfl rfl Zs YU YU f j8 (λtp=>ij (nY rfl (ay a1) (ay a0) (show (aK v8 tp 0).cell? ⟨O.heap.size,0,none⟩=some (.chan none)from j9.cell) (show (aK v8 tp 0).frozen? ⟨O.heap.size,0,none⟩=false from j9.free)) rfl) ?_;rintro B2 y9 v9 w F9 u9 o6 t7 h4 f k0;have o7:=dV.set h4 j7;have t8:=t4.low j o6.w o7;have o8:=Nat.le_trans t5 o7.1;have t9:=o6 _ _ t6;have o9:=o5.le t7;have u0:=j9.set h4;change aB _ x8 _ at k0;refine aa.aH f λw f=> ?_;refine aa.ah f λw f=> ?_;refine aa.ah f λw f=> ?_;refine aa.aC f λw f=> ?_;have h5:=h0;have c6:=h1;have h6:=h2;have h7:=h3;have c7:=a0;have d0:=a1;have k1:=o3;generalize x8=x9 at k0 k1 h5 c6 h6 h7 c7 d0;refine aa.fP (i:=0) (R:=λu k=>u= R7 (some ⟨o,0,none⟩) n n/\k.heap=v9.heap) bh ⟨_,Try.func16⟩ Zt rfl rfl Zs YU YU f k0 (λtp=>aJ rfl (ay c6) ⟨rfl,rfl⟩) ?_;rintro z6 B4 u1 w B5 u10 h8 p0 ⟨rfl,k2⟩ f d1;have d2:(x9.setIfInBounds 27 (R7 (some ⟨o,0,none⟩) n n)).size=54:=by simpa using k1
 have d3:=ab (d:=27) (u:= R7 (some ⟨o,0,none⟩) n n) h5 YQ;have d4:=ab (d:=27) (u:= R7 (some ⟨o,0,none⟩) n n) c6 YQ;have d5:=ab (d:=27) (u:= R7 (some ⟨o,0,none⟩) n n) h6 YQ;have d6:=ab (d:=27) (u:= R7 (some ⟨o,0,none⟩) n n) h7 YQ;have a2:=ab (d:=27) (u:= R7 (some ⟨o,0,none⟩) n n) c7 YQ;have a3:=ab (d:=27) (u:= R7 (some ⟨o,0,none⟩) n n) d0 YQ;have t:=aE (u:= R7 (some ⟨o,0,none⟩) n n) k1 (show 27<54 by decide);change aB _ (x9.setIfInBounds 27 (R7 (some ⟨o,0,none⟩) n n)) _ at d1;generalize x9.setIfInBounds 27 (R7 (some ⟨o,0,none⟩) n n)=k3 at d1 d2 d3 d4 d5 d6 a2 a3 t;have d7:=ar.heap k2;have p1:=t8.low j h8.w (dV.of d7 o8);have h9:=Nat.le_trans o8 d7.1;have p3:=h8 _ _ t9;have k5:=o9.le p0;have p4:=u0.keep d7;refine aa.fP (i:=1) (R:=λu k=>u= R5 R6 n/\k.heap=u1.heap) bh ⟨_,Try.func16⟩ Zt rfl rfl Zs YU YU f d1 (λtp=>aL (oq rfl (ay t) rfl) ⟨rfl,rfl⟩) ?_;rintro z7 B6 u2 w B8 u11 i0 p5 ⟨rfl,k6⟩ f d8;have d9:(k3.setIfInBounds 28 (R5 R6 n)).size=54:=by simpa using d2
 have e0:=ab (d:=28) (u:= R5 R6 n) d3 YQ;have e1:=ab (d:=28) (u:= R5 R6 n) d4 YQ;have e2:=ab (d:=28) (u:= R5 R6 n) d5 YQ;have e3:=ab (d:=28) (u:= R5 R6 n) d6 YQ;have a4:=ab (d:=28) (u:= R5 R6 n) a2 YQ;have a5:=ab (d:=28) (u:= R5 R6 n) a3 YQ;have a6:=ab (d:=28) (u:= R5 R6 n) t YQ;have a7:=aE (u:= R5 R6 n) d2 (show 28<54 by decide);change aB _ (k3.setIfInBounds 28 (R5 R6 n)) _ at d8;generalize k3.setIfInBounds 28 (R5 R6 n)=k7 at d8 d9 e0 e1 e2 e3 a4 a5 a6 a7;have e4:=ar.heap k6;have p6:=p1.low j i0.w (dV.of e4 h9);have i1:=Nat.le_trans h9 e4.1;have p7:=i0 _ _ p3;have k8:=k5.le p5;have p8:=p4.keep e4;refine aa.fP (i:=2) (R:=λu k=>u= R5 R6 (0:Nat)/\k.heap=u2.heap) bh ⟨_,Try.func16⟩ Zt rfl rfl Zs YU YU f d8 (λtp=>aJ rfl rfl ⟨rfl,rfl⟩) ?_;rintro p9 u3 u4 w u5 u12 i2 q0 ⟨rfl,k9⟩ f e5;have i3:(k7.setIfInBounds 29 (R5 R6 (0:Nat))).size=54:=by simpa using d9
 have e6:=ab (d:=29) (u:= R5 R6 (0:Nat)) e0 YQ;have l0:=ab (d:=29) (u:= R5 R6 (0:Nat)) e1 YQ;have e7:=ab (d:=29) (u:= R5 R6 (0:Nat)) e2 YQ;have e8:=ab (d:=29) (u:= R5 R6 (0:Nat)) e3 YQ;have f4:=ab (d:=29) (u:= R5 R6 (0:Nat)) a4 YQ;have a8:=ab (d:=29) (u:= R5 R6 (0:Nat)) a5 YQ;have a9:=ab (d:=29) (u:= R5 R6 (0:Nat)) a6 YQ;have b1:=ab (d:=29) (u:= R5 R6 (0:Nat)) a7 YQ;have b2:=aE (u:= R5 R6 (0:Nat)) d9 (show 29<54 by decide);change aB _ (k7.setIfInBounds 29 (R5 R6 (0:Nat))) _ at e5;generalize k7.setIfInBounds 29 (R5 R6 (0:Nat))=q1 at e5 i3 e6 l0 e7 e8 f4 a8 a9 b1 b2;have e9:=ar.heap k9;have q2:=p6.low j i2.w (dV.of e9 i1);have z8:=Nat.le_trans i1 e9.1;have i4:=i2 _ _ p7;have l1:=k8.le q0;have i5:=p8.keep e9;refine aa.aH f λw f=> ?_;refine aa.aV f λw f=> ?_;refine aa.dO f λw f=> ?_;rw[<-eL,<-eT];have q4:zi q1 v.heap.size v3.heap.size O.heap.size o n b0 0:=⟨i3,e6,e7,e8,a8,a9,b1,b2⟩;have q5:PS v0 (O.heap.size + 1) n o Z l2 L:=⟨by have:=j.Sk;omega,j.OP,λi hi=>by have:=j.JE i hi;omega,by have:=j.aN;omega,j.ov,j.BR,j.inj⟩;refine Bl (E:=E1 (Vp Z Gn h X) C D.heap.size) (bL:=v.heap.size) (bF:=O.heap.size) (b0:=b0) (X0:=X0) q5 trivial rfl (Nat.lt_succ_self _) (λi hi _=>by have:=(j.JE i hi).1;omega) hn hF.few l7 ?_ n 0 _ [] p9 u4 u5 w q1 u3 b0 X0 YP f q2 l1 (Na i5) q4 i5.cell i4 i4 YV YV (λc hc=>by unfold ca.put;rw[if_neg YP]) e5;intro r lg f0 k F' w x C3 c9 X9 f w0 q6 C0 w7 w8 q7 q8 r9 r0 w9;exact Bn rfl hm hb rfl l5 l6 m1 (hl.av m0) (λx0 ve Fe we b z y0 q9 z3 r1 hz=>hK _ x0 ve Fe we b z ⟨rfl,rfl⟩ (g0.trans y0) q9 (m0.trans z3) r1 hz) f w0 q6 w7 w8 q7 q8 r9 r0 w9
end
end
section
variable {ph:Array Bool->Ph}{x:Array Value}
theorem aa.BP
  (m: ∀ (b:Array Bool) i o s d,I b s->b.size=r.size->r[i]? =S o->b.getD i true=false->(∀e∈o.after,K4 .any e=true->b.getD e.on false=true)->(∀g,I (b.setIfInBounds i true) g->mr P E p c D a n z (ph (b.setIfInBounds i true)) j f l g (.inRegion r d::k))->mr P E p c D a n z (ph b) j f l s (.inRegion r (i::d)::k))
  (q: ∀ (b:Array Bool) s,I b s->b.size=r.size->(∀i,i<r.size->b.getD i false=true)->mr P E p c D a n z (ph b) j f l s (.inRegion r []::k)):
  ∀ {b:Array Bool}{L:List Nat},kj r b L->b.size=r.size-> ∀s,I b s->mr P E p c D a n z (ph b) j f l s (.inRegion r L::k):=by
 intro b L h;induction h with
 | nil h=>grind
 | cons t u v _ w=>grind
theorem aa.LN {ops:Array Q0}(J: ¬ (ph (Array.replicate ops.size false)).late)(Z: ∀g,ph g≠ .gone)(hm:P.follows .mixedOrders=true)(hb:(N2 ops.size).all (λi=>((ops[i]?).map λo=>o.guard.isNone && o.after.all λq=> !K4 .any q || decide (q.on<i)).getD true)=true)
  (r:At E e v F j w)(K:aB e x y)(L:I (Array.replicate ops.size false) ⟨s,e,v,F,x⟩)
  (hs: ∀ (g:Array Bool) i o B t,I g B->g.size=ops.size->ops[i]? =S o->g.getD i true=false->(∀q∈o.after,K4 .any q=true->g.getD q.on false=true)->(∀T,I (g.setIfInBounds i true) T->mr P E p c D a n z (ph (g.setIfInBounds i true)) j f l T (.inRegion ops t::k))->mr P E p c D a n z (ph g) j f l B (.inRegion ops (i::t)::k))
  (hK: ∀ (g:Array Bool) B,I g B->g.size=ops.size->(∀i,i<ops.size->g.getD i false=true)->mr P E p c D a n z (ph g) j f l B k):aa P E p c D a n s z (ph (Array.replicate ops.size false)) F (G (ak f y (.code (.region m ops true)::k)) l) w:=by
 have C: ∀i o,ops[i]? =S o-> ∀q∈o.after,K4 .any q=true->q.on<i:=by intro i o ho q M N;have hi:i<ops.size:=YS;have:=O0.1 hb i (O7.2 hi);rw[ho]at this;simp only[K5,L6,Bool.and_eq_true]at this;have V:=Array.all_eq_true'.1 this.2 q M;rw[N]at V;simpa using V
 have W: ∀ (u:World),K3 P p (G (ak f y (.code (.region m ops true)::k)) l) u= .go (G (ak f y (.inRegion ops (K6 (P.follows .mixedOrders) ops (u.tape u.drawn (.order f m)))::k)) l) {u with drawn:=u.drawn + 1}:=λu=>by rfl
 refine aa.step (λ_=>F) R J (λA X=>⟨_,_,_,W A,⟨λ_ _ _ _=>rfl,λb O q Y _ h=>⟨O,h,R,λ_ _=>rfl⟩,L4 _,λb O q Y h=>⟨O,Y,h⟩,R,R,R,λq M=>by simp at M⟩,⟨R,R⟩,?_,r.fg.ok⟩) λA g' w' es X q=> ?_
 ·exact ⟨λ_ h=> .inl h,λ_ h=> .inl h,λ_ _ h=> .inl h⟩
 ·rw[W]at q;injection q with e1 e2
  subst e1;subst e2;have d:=r.rely X;have H:At E e v F j {A with drawn:=A.drawn + 1}:=⟨⟨d.bQ.size,d.bQ.inj,d.bQ.low,d.bQ.et,d.bQ.pos,d.bQ.cells,d.bQ.num⟩,d.fp,⟨d.fg.ok,d.fg.low,d.fg.dZ,d.fg.out,d.fg.live,d.fg.pure⟩,d.cells,d.held⟩;have hl:kj ops (Array.replicate ops.size false) (K6 (P.follows .mixedOrders) ops (A.tape A.drawn (.order f m))):=by simp only[K6,hm,Bool.true_or,if_true];exact yf C _ _ _ YR YS
  refine aa.BP hs (λg B L Q hd y w r K=> ?_) hl YR ⟨s,e,v,F,x⟩ L y _ H K;refine aa.go r (Z g) (λ_=>qj) λA d=> ?_;exact hK g B L Q hd y A d K
end
noncomputable def mz:K9:=match Try.f47.body with | some (.seq (.seq _ (.block _ (.loop c))) _)=>c | _=> .skip
noncomputable def CM:K9:=match Try.f47.body with | some (.seq _ c)=>c | _=> .skip
noncomputable def Gt:Array Q0:=match mz with | .seq _ (.seq _ (.seq (.block _ (.seq _ (.region _ o _))) _))=>o | _=> #[]
theorem kS(a:o.op= .move x)(b:d x=u):(J4 d o).run Try.prog w= .ok (.value u) w:=by unfold J4;simp[a,b]
theorem tU {t:P0}{j:Nat}(a:o.op= .fieldAddr t x j)(b:d x= R8 (S ⟨m,A,none⟩))(c:(t=65\/t=116)/\j<2)(e:n=A + j):(execOp d o).run Try.prog w= .ok (.value (R8 (S ⟨m,n,none⟩))) w:=by obtain ⟨f,g⟩:=c;subst e;rcases (by omega:j=0\/j=1)with rfl | rfl<;>rcases f with rfl | rfl<;>(unfold execOp;simp only[a,b];go_simp)
theorem vx{u:Int}(h:w.cell? Q=S (R5 R6 u)):(M1 3 (.pointer (S Q))).run Try.prog w= .ok (R5 R6 u) w:=Zv
theorem mQ{b:Nat}(h:w.cell? Q=S (R3 R4 n b)):(M1 26 (.pointer (S Q))).run Try.prog w= .ok (R3 R4 n b) w:=Zv
theorem Gf {y:K1}(a:o.op= .indexAddr 114 x y)(b:d x= R7 (S ⟨m,0,none⟩) n A)(c:d y= R5 R6 i)(h:i<n)(e:n<=1000):(J4 d o).run Try.prog w= .ok (.value (R8 (S ⟨m,i * 2,none⟩))) w:=by have f:(i:Int)<(n:Int):=YP;unfold J4;simp only[a,b,c];go_simp
def fI (v:World)(c:Option O4)(q:Nat)(d:Nat->Nat)(X:Nat->C2):Prop:= ∀j,j<q-> ∃b x a,c=S ⟨b,0,none⟩/\v.rangeAt b (j * 2) [R5 R6 (d j),R3 R4 x a]/\aS (R3 R4 x a) (X j)
theorem fI.av{tf:Nat->Nat}(h:fI v b n tf X)(k:aA v w):fI w b n tf X:=λj a=>by obtain ⟨c,x,d,e,f,g⟩:=h j a;exact ⟨c,x,d,e,λi u l=>k.2 _ _ (f i u l),g⟩
def lx (v:World)(a J:Nat)(b c:Nat->Nat):Prop:= ∀j,j<J->v.rangeAt a (j * 2) [.chan (S (b j)),.chan (S (c j))]
theorem lx.av{ci co:Nat->Nat}(h:lx v n J ci co)(k:aA v w):lx w n J ci co:=λj a i u b=>k.2 _ _ (h j a i u b)
structure D3 (ρ:aU)(v:World)(F:aq)(x:Array J8)(r:ca)(vl:Nat->J8)(dn:Array Bool)(s:CO):Prop where
 wx:Ext ρ s.ρ
 heap:s.v.heap=v.heap
 qP:F.le s.F
 sz:s.x.size=32
 same: ∀k:Nat,k<14\/22<=k->s.x[k]? =x[k]?
 rr:s.r=r
 HR: ∀j,j<8->dn.getD j false=true->s.x[14 + j]? =S (vl j)
theorem D3.put {ρ:aU}{a:aq}{r:ca}{b:Array Bool}{s:CO}(h:D3 ρ v F y r H b s)(j:Nat)(l:j<8)(c:Ext s.ρ e)(d:w.heap=s.v.heap)(f:s.F.le a):D3 ρ v F y r H (b.setIfInBounds j true) ⟨s.r,e,w,a,s.x.setIfInBounds (14 + j) (H j)⟩ where
 wx:=h.wx.trans c
 heap:=d.trans h.heap
 qP:=aq.le_trans h.qP f
 sz:=by simpa using h.sz
 same k hk:=by show (s.x.setIfInBounds (14 + j) (H j))[k]? =_;rw[J1,if_neg YP];exact h.same k hk
 rr:=h.rr
 HR i hi hd:=by
  show (s.x.setIfInBounds (14 + j) (H j))[14 + i]? =_;by_cases g:i=j
  ·subst g;exact aE h.sz YP
  ·rw[J1,if_neg YP];refine h.HR i hi ?_;rw[J3,J1,if_neg YP,<-J3]at hd;exact hd
theorem D3.skip{r:ca}{a:Array Bool}{s:CO}(h:D3 e v F y r H a s):D3 e v F y r H (a.setIfInBounds 8 true) s:=⟨h.wx,h.heap,h.qP,h.sz,h.same,h.rr,λj c b=>h.HR j c (by rw[J3,J1,if_neg YP,<-J3]at b;exact b)⟩
section
variable {r:ca}{val:cH}{x:Array Value}{Pb J f b5 a a':Nat}{ci co:Nat->Nat}{Xi:Nat}{s:List Ak}
def Ra (b J f c a d:Nat)(e:Nat->Nat):Nat->J8
 | 0=> R7 (S ⟨b,0,none⟩) J J
 | 1=> R8 (S ⟨c,0,none⟩)
 | 2=> R5 R6 f
 | 3=> R8 (S ⟨b,f * 2,none⟩)
 | 4=> R8 (S ⟨b,f * 2,none⟩)
 | 5=> .chan (S (e f))
 | 6=> R8 (S ⟨c,1,none⟩)
 | _=> R3 R4 a d
theorem Ic (a3:At E e v F val w)(hv:aB e x y)(a4:x.size=32)(h0:x[0]? =some (R7 (some ⟨n,0,none⟩) J J))(h5:x[5]? =some (R8 (some ⟨A,0,none⟩)))(hJ:J<=1000)(hf:m<J)(hP:lx v n J ci co)
  (c0:v.cell? ⟨A,0,none⟩=some (R5 R6 m))(c1:v.cell? ⟨A,1,none⟩=some (R3 R4 W N))(a5:e[ci m]? =some (Xi,.chan))(hr:r (2 * m)=some Xi)(hV:E.V (2 * m) V (R3 R4 W N))
  (K: ∀ (M:aU)(v':World)(F':aq)(x' y':Array Value)(w':World),Ext e M->v'.heap=v.heap->x'.size=32->(∀k:Nat,k<14\/22<=k->x'[k]? =x[k]?)->At E M v' F' val w'->aB M x' y'->aa Try.prog E false oI D gU 0 r [] (.work false [] s) F' (G (ak 47 y' k) l) w'):
  aa Try.prog E false oI D gU 0 r [] (.work false [] (.send (2 * m) V::s)) F (G (ak 47 y (.code (.region 3 Gt true)::k)) l) w:=by
 have e3:Gt=Gt:=rfl;conv at e3=>rhs;unfold Gt mz;simp only[Try.f47]
 have a6:Gt.size=9:=by rw[e3];rfl
 have e0:(if (Array.replicate Gt.size false).getD 8 false=true then Ph.work false [] s else Ph.work false [] (.send (2 * m) V::s))=Ph.work false [] (.send (2 * m) V::s):=by rw[if_neg (by simp_all)]
 rw[<-e0];refine aa.LN (ops:=Gt) (ph:=λz=>if z.getD 8 false=true then Ph.work false [] s else Ph.work false [] (.send (2 * m) V::s)) (I:=D3 e v F x r (Ra n J m A W N ci)) (by split<;>simp[Ph.late]) (λz=>YS) Zs Zs a3 hv ⟨.refl _,rfl,aq.le_refl _,a4,λ_ _=>rfl,rfl,λj hj hd=> ?_⟩ ?_ ?_
 ·exfalso;rw[Array.getD_eq_getD_getElem?,Array.getElem?_replicate]at hd;grind
 ·intro z i o f P g Q B C T c X w1 q t;rw[a6]at Q;rw[e3]at B c ⊢;have a7: ∀j,j≠8->(z.setIfInBounds j true).getD 8 false=z.getD 8 false:=λj hj=>by rw[Array.getD_eq_getD_getElem?,Array.getElem?_setIfInBounds,if_neg hj,<-Array.getD_eq_getD_getElem?]
  have O: ∀ {p:Addr}{u:Value},v.cell? p=some u-> ∀a,(aK f.v a 0).cell? p=some u:=λh a=>by show f.v.cell? _=_;unfold World.cell? at h ⊢;rw[g.heap];exact h
  have a8:=(g.same 0 YP).trans h0;have Y:=(g.same 5 YP).trans h5;have a9:=hP m hf;have b0:v.cell? ⟨n,m * 2,none⟩=some (.chan (some (ci m))):=a9 0 _ rfl;have b1: ¬ (if z.getD 8 false=true then Ph.work false [] s else Ph.work false [] (.send (2 * m) V::s)).late:=by split<;>simp[Ph.late]
  have L: ∀ (j:Nat),j<8->j=i->o.guard=none->jM Try.prog okF o.op=true->o.dst=some (14 + j)->(∀a,(J4 (J2 ⟨f.x,[]⟩) o).run Try.prog (aK f.v a 0)= .ok (.value (Ra n J m A W N ci j)) (aK f.v a 0))->aa Try.prog E false oI D gU 0 f.r [] (if z.getD 8 false=true then Ph.work false [] s else Ph.work false [] (.send (2 * m) V::s)) f.F (G (ak 47 X (.inRegion _ (i::P)::k)) l) w1:=λj hj b2 b3 b4 hd Z=>by subst b2;refine aa.fP (R:=λu v'=>u=Ra n J m A W N ci j/\v'.heap=f.v.heap) bh ⟨_,Try.func47⟩ b1 B b3 b4 YU YU q t (λa=>aL (Z a) ⟨rfl,rfl⟩) ?_;rintro c4 y2 v2 w2 F2 u2 b5 b6 ⟨rfl,a0⟩ H a1;rw[hd]at a1;have:=c _ (g.put j hj b5 a0 b6) y2 w2 H a1;dsimp only at this;rw[a7 j YP]at this;exact this
  have d:=λb2 he hb hl=>g.HR _ hl (T b2 he hb);rcases i with _ | _ | _ | _ | _ | _ | _ | _ | _ | i
  ·cases B;exact L 0 YP rfl rfl Zs rfl λa=>kS rfl (ay a8)
  ·cases B;exact L 1 YP rfl rfl Zs rfl λa=>tU (j:=0) rfl (ay Y) ⟨.inl rfl,YP⟩ rfl
  ·cases B;exact L 2 YP rfl rfl Zs rfl λa=>gS rfl (ay (d ⟨1,.data⟩ YR rfl YQ)) (vx (O c0 a))
  ·cases B;exact L 3 YP rfl rfl Zs rfl λa=>Gf rfl (ay (d ⟨0,.data⟩ YR rfl YQ)) (ay (d ⟨2,.data⟩ YR rfl YQ)) hf hJ
  ·cases B;exact L 4 YP rfl rfl Zs rfl λa=>tU (j:=0) rfl (ay (d ⟨3,.data⟩ YR rfl YQ)) ⟨.inr rfl,YP⟩ rfl
  ·cases B;exact L 5 YP rfl rfl Zs rfl λa=>gS rfl (ay (d ⟨4,.data⟩ YR rfl YQ)) (zJ (O b0 a))
  ·cases B;exact L 6 YP rfl rfl Zs rfl λa=>tU (j:=1) rfl (ay Y) ⟨.inl rfl,YP⟩ rfl
  ·cases B;exact L 7 YP rfl rfl Zs rfl λa=>gS rfl (ay (d ⟨6,.data⟩ YR rfl YQ)) (mQ (O c1 a))
  ·have b7:z.getD 8 false=false:=by
    rw[Array.getD_eq_getD_getElem?]at C ⊢;cases h:z[8]? with
    | none=>rw[h]at C;cases C
    | some b=>rw[h]at C;exact C
   have b8:(z.setIfInBounds 8 true).getD 8 false=true:=by rw[Array.getD_eq_getD_getElem?,Array.getElem?_setIfInBounds,if_pos rfl,if_pos YP];rfl
   have c5:=d;cases B;have b9:=t.ev (d ⟨5,.data⟩ YR rfl YQ);have c2:=t.ev (d ⟨7,.data⟩ YR rfl YQ);rw[if_neg (by rw[b7];decide)];have c3:f.r (2 * m)=some Xi:=by rw[g.rr];exact hr
   refine aa.Fq (i:=8) q rfl rfl rfl rfl (b9.tY (g.wx _ _ a5)) c3 (by rw[show J2 ⟨X,[]⟩ (.tmp 21)=_ from c2.KA];exact hV) λw2 H=> ?_;have:=c _ g.skip X w2 H t;rw[b8]at this;exact this
  simp_all
 ·intro z f g Q a2 X w1 q t;have h8:=a2 8 YP;rw[h8,g.rr];exact K f.ρ f.v f.F f.x X w1 g.wx g.heap g.sz g.same q t
end
noncomputable def PQ:K9:=match Try.f47.body with | some c=>c | _=> .skip
noncomputable def pd:K9:=match CM with | .seq _ (.block _ (.loop c))=>c | _=> .skip
section
variable {Pb J q cq:Nat}{ad:Option Addr}
structure SD (x:Array J8)(Pb J q cq t:Nat)(ad:Option O4):Prop where
 sz:x.size=32
 s0:x[0]? =S (R7 (S ⟨Pb,0,none⟩) J J)
 s8:x[8]? =S (.slice ad q cq)
 s9:x[9]? =S (R5 R6 q)
 oy:x[10]? =S (R5 R6 t)
structure SE (x:Array J8)(Pb J j:Nat):Prop where
 sz:x.size=32
 RV:x[23]? =S (R7 (S ⟨Pb,0,none⟩) J J)
 RY:x[24]? =S (R5 R6 J)
 RZ:x[25]? =S (R5 R6 j)
theorem vo(h:y.size=32): ∃u:Nat->Value,y= #[u 0,u 1,u 2,u 3,u 4,u 5,u 6,u 7,u 8,u 9,u 10,u 11,u 12,u 13,u 14,u 15,u 16,u 17,u 18,u 19,u 20,u 21,u 22,u 23,u 24,u 25,u 26,u 27,u 28,u 29,u 30,u 31]/\ ∀ (i:Nat) v,y[i]? =S v->u i=v:=by obtain ⟨u,a,b⟩:=pT h;exact ⟨u,a,b⟩
theorem xL (hJ:J<=1000)(hr: ∀b,b<J->s (2 * b)=S (Z b))
  (K: ∀a3 o F' w',At E a3 o F' j w'->aa Try.prog E false oI D gU 0 s [] (.work false [] []) F' (G (M.finish (.tuple #[])) l) w'):
  ∀ (X b:Nat)(Y:aU)(v:World)(F:aq)(w:World)(x y:Array Value),b + X=J->At E Y v F j w->(∀i,i<J->Y[B i]? =S (Z i,.chan))->lx v n J B T->SE x n J b->aB Y x y->
   aa Try.prog E false oI D gU 0 s [] (.work false [] (lK b X)) F (G (ak 47 y [.code pd,.inLoop pd,.inBlock 2]) (M::l)) w:=by
 intro X;induction X with
 | zero=>
  intro b Y v F w x y hq a c C e q;have b2: ¬ ((b:Int)<(J:Int)):=YP;have k:pd=pd:=rfl;conv at k=>rhs;unfold pd CM;simp only[Try.f47]
  rw[k];unfold lK;obtain ⟨u,r,f⟩:=vo e.sz;rw[f 23 _ e.RV,f 24 _ e.RY,f 25 _ e.RZ]at r;rw[r]at q;refine aa.ah a λw a=> ?_;refine aa.ej (Q:=λz o=>z= #[u 0,u 1,u 2,u 3,u 4,u 5,u 6,u 7,u 8,u 9,u 10,u 11,u 12,u 13,u 14,u 15,u 16,u 17,u 18,u 19,u 20,u 21,u 22,R7 (S ⟨n,0,none⟩) J J,R5 R6 J,R5 R6 b,.bool false,u 27,u 28,u 29,u 30,u 31]/\o.heap=v.heap) bh ⟨_,Try.func47⟩ Zt Zs YU YU a q (λA=> ?_) ?_
  ·clear a q C c f r e;go_wp2
   rfl
  rintro a4 x2 y2 g w2 F2 a0 a5 ⟨rfl,m⟩ a d;refine aa.ah a λw a=> ?_;refine aa.go a YR (λ_=>bH (d.bool R)) λw a=> ?_;simp only[J6, ↓reduceIte];refine aa.go a YR (λ_=>fe R) λw a=> ?_;refine aa.gQ a λw a=> ?_;refine aa.go a YR (λ_=>dT Try.func47 R) λw a=> ?_;grind
 | succ X ih=>
  intro b Y v F w x y hq a c C e q;have N:b<J:=YP;have b3:(b:Int)<(J:Int):=YP;obtain ⟨a1,hT⟩: ∃a1:Nat,a1=b + 1:=⟨_,R⟩;have b4:IntKind.i64.wrap ((b:Int) + 1)=(a1:Int):=Zw;have k:pd=pd:=rfl;conv at k=>rhs;unfold pd CM;simp only[Try.f47]
  rw[k];unfold lK;obtain ⟨u,r,f⟩:=vo e.sz;rw[f 23 _ e.RV,f 24 _ e.RY,f 25 _ e.RZ]at r;rw[r]at q;refine aa.ah a λw a=> ?_;refine aa.ej (Q:=λz o=>z= #[u 0,u 1,u 2,u 3,u 4,u 5,u 6,u 7,u 8,u 9,u 10,u 11,u 12,u 13,u 14,u 15,u 16,u 17,u 18,u 19,u 20,u 21,u 22,R7 (S ⟨n,0,none⟩) J J,R5 R6 J,R5 R6 b,.bool true,u 27,u 28,u 29,u 30,u 31]/\o.heap=v.heap) bh ⟨_,Try.func47⟩ Zt Zs YU YU a q (λA=> ?_) ?_
  ·clear a q C c f r e hT;go_wp2
   rfl
  rintro a4 x2 y2 g w2 F2 a0 a5 ⟨rfl,m⟩ a d;refine aa.ah a λw a=> ?_;refine aa.go a YR (λ_=>bH (d.bool R)) λw a=> ?_;simp only[if_true];refine aa.dh a λw a=> ?_;refine aa.ah a λw a=> ?_;refine aa.aV a λw a=> ?_;refine aa.ah a λw a=> ?_;have p:g.rangeAt n (b * 2) [.chan (S (B b)),.chan (S (T b))]:=λi u f=>(aA.heap m).2 _ _ (C b N i u f);refine aa.ej (Q:=λz o=>z= #[u 0,u 1,u 2,u 3,u 4,u 5,u 6,R8 (S ⟨g.heap.size,0,none⟩),u 8,u 9,u 10,u 11,u 12,u 13,u 14,u 15,u 16,u 17,u 18,u 19,u 20,u 21,u 22,R7 (S ⟨n,0,none⟩) J J,R5 R6 J,R5 R6 b,.bool true,R8 (S ⟨n,b * 2,none⟩),.agg #[.chan (S (B b)),.chan (S (T b))],u 29,u 30,u 31]/\o.cell? ⟨g.heap.size,0,none⟩=S (.chan (S (B b)))/\ar g o) bh ⟨_,Try.func47⟩ Zt Zs YU YU a d (λA=> ?_) ?_
  ·have b5:(aK g A 0).cell? ⟨n,b * 2,none⟩=S (.chan (S (B b))):=p 0 _ R;have b6:(aK g A 0).cell? ⟨n,b * 2 + 1,none⟩=S (.chan (S (T b))):=p 1 _ R;clear a q d C c f r e hT m p;go_wp2
   exact ⟨R,jz (aK g A 0) _ _ _ 0 _ R,ar.alloc (aK g A 0) _⟩
  rintro b7 x3 y3 v3 w3 F3 a6 b8 ⟨rfl,O,P⟩ a V;refine aa.aC a λw a=> ?_;refine aa.ops (L:= [0,1]) (rest:= [2]) (ey:= #[_,_]) (Q:=λz o=>z= #[u 0,u 1,u 2,u 3,u 4,u 5,u 6,R8 (S ⟨g.heap.size,0,none⟩),u 8,u 9,u 10,u 11,u 12,u 13,u 14,u 15,u 16,u 17,u 18,u 19,u 20,u 21,u 22,R7 (S ⟨n,0,none⟩) J J,R5 R6 J,R5 R6 b,.bool true,R8 (S ⟨n,b * 2,none⟩),.agg #[.chan (S (B b)),.chan (S (T b))],R8 (S ⟨g.heap.size,0,none⟩),.chan (S (B b)),u 31]/\o.heap=v3.heap) bh ⟨_,Try.func47⟩ Zt 0 (.cons ⟨_,R,R,Zs,R⟩ (.cons ⟨_,R,R,Zs,R⟩ (.nil))) Zs YU YU a V (λA=> ?_) ?_
  ·have b1:(aK v3 A 0).cell? ⟨g.heap.size,0,none⟩=S (.chan (S (B b))):=O;clear a q d V C c f r e hT m p O P;go_wp2
   rfl
  rintro b9 x4 y4 v4 w4 F4 a7 c1 ⟨rfl,H⟩ a W;have I:=(a0.trans a6).trans a7;refine aa.xq (i:=2) a R R R R ((W.ev (t:=30) R).tY (I _ _ (c b N))) (hr b N) Zs λw a=> ?_;refine aa.aH a λw a=> ?_;refine aa.cd a λw a=> ?_;refine aa.ej (Q:=λz o=>z= #[u 0,u 1,u 2,u 3,u 4,u 5,u 6,R8 (S ⟨g.heap.size,0,none⟩),u 8,u 9,u 10,u 11,u 12,u 13,u 14,u 15,u 16,u 17,u 18,u 19,u 20,u 21,u 22,R7 (S ⟨n,0,none⟩) J J,R5 R6 J,R5 R6 a1,.bool true,R8 (S ⟨n,b * 2,none⟩),.agg #[.chan (S (B b)),.chan (S (T b))],R8 (S ⟨g.heap.size,0,none⟩),.chan (S (B b)),R5 R6 a1]/\o.heap=v4.heap) bh ⟨_,Try.func47⟩ Zt Zs YU YU a W (λA=> ?_) ?_
  ·clear a q d V W C c f r e hT m p O P H;go_wp2
   rfl
  rintro a8 x5 y5 v5 w5 F5 a9 c2 ⟨rfl,a2⟩ a b0;refine aa.dw a λw a=> ?_;rw[<-k];subst hT;have hg:=((((aA.heap m).trans P.av).trans (aA.heap H)).trans (aA.heap a2));exact ih (b + 1) a8 v5 F5 w _ y5 YP a (λi hi=>a9 _ _ (I _ _ (c i hi))) (C.av hg) ⟨R,R,R,R⟩ b0
end
theorem Pn (a b:J8):(#[a,b] ++ J5 30 U:Array J8)= #[a,b,U,U,U,U,U,U,U,U,U,U,U,U,U,U,U,U,U,U,U,U,U,U,U,U,U,U,U,U,U,U]:=by simp
section
variable {Lg:bC}{ci co Xi:Nat->Nat}
theorem Bf (hJ:J<=1000)(d2:m<=1000000)(hr: ∀c2,c2<J->s (2 * c2)=S (Xi c2))(a3: ∀t,t<m->B t<J)(hV: ∀t u,t<m->aS u (X t)->E.V (2 * B t) t u)
  (K: ∀c3 r F' w',At E c3 r F' j w'->aa Try.prog E false oI D gU 0 s [] (.work false [] []) F' (G (M.finish (.tuple #[])) l) w'):
  ∀ (b0 t:Nat)(ρ:aU)(v:World)(F:aq)(w:World)(x y:Array Value),t + b0=m->At E ρ v F j w->(∀i,i<J->ρ[ci i]? =S (Xi i,.chan))->lx v n J ci co->fI v b m B X->SD x n J m A t b->aB ρ x y->
   aa Try.prog E false oI D gU 0 s [] (.work false [] (sL J (mj B b0 t) t)) F (G (ak 47 y [.code mz,.inLoop mz,.inBlock 0,.code CM]) (M::l)) w:=by
 intro b0;induction b0 with
 | zero=>
  intro t ρ v F w x y hq c d O e k L;have d3: ¬ ((t:Int)<(m:Int)):=YP;have z:mz=mz:=rfl;have eR:CM=CM:=rfl;have eC:pd=pd:=rfl;conv at z=>rhs;unfold mz;simp only[Try.f47]
  conv at eR=>rhs;unfold CM;simp only[Try.f47]
  conv at eC=>rhs;unfold pd CM;simp only[Try.f47]
  rw[z];unfold mj sL;obtain ⟨u,N,o⟩:=vo k.sz;rw[o 0 _ k.s0,o 8 _ k.s8,o 9 _ k.s9,o 10 _ k.oy]at N;rw[N]at L;refine aa.ah c λw c=> ?_;refine aa.ej (Q:=λP r=>P= #[R7 (S ⟨n,0,none⟩) J J,u 1,u 2,u 3,u 4,u 5,u 6,u 7,.slice b m A,R5 R6 m,R5 R6 t,.bool false,u 12,u 13,u 14,u 15,u 16,u 17,u 18,u 19,u 20,u 21,u 22,u 23,u 24,u 25,u 26,u 27,u 28,u 29,u 30,u 31]/\r.heap=v.heap) bh ⟨_,Try.func47⟩ Zt Zs YU YU c L (λV=> ?_) ?_
  ·clear c L O d o N k e;go_wp2
   rfl
  rintro c4 x2 y2 C w2 F2 a4 c5 ⟨rfl,p⟩ c f;refine aa.ah c λw c=> ?_;refine aa.go c YR (λ_=>bH (f.bool R)) λw c=> ?_;simp only[J6, ↓reduceIte];refine aa.go c YR (λ_=>fe R) λw c=> ?_;rw[eR];refine aa.ah c λw c=> ?_;refine aa.ej (Q:=λP r=>P= #[R7 (S ⟨n,0,none⟩) J J,u 1,u 2,u 3,u 4,u 5,u 6,u 7,.slice b m A,R5 R6 m,R5 R6 t,.bool false,u 12,u 13,u 14,u 15,u 16,u 17,u 18,u 19,u 20,u 21,u 22,R7 (S ⟨n,0,none⟩) J J,R5 R6 J,R5 R6 (0:Nat),u 26,u 27,u 28,u 29,u 30,u 31]/\r.heap=C.heap) bh ⟨_,Try.func47⟩ Zt Zs YU YU c f (λV=> ?_) ?_
  ·clear c L f O d o N k e p;go_wp2
   rfl
  rintro b1 x3 y3 v3 w3 F3 a5 c6 ⟨rfl,b2⟩ c W;refine aa.aV c λw c=> ?_;refine aa.dO c λw c=> ?_;rw[<-eC];exact xL hJ hr K J 0 b1 v3 F3 w _ y3 YP c (λi hi=>a5 _ _ (a4 _ _ (d i hi))) ((O.av (aA.heap p)).av (aA.heap b2)) ⟨R,R,R,R⟩ W
 | succ b0 ih=>
  intro t ρ v F w x y hq c d O e k L;have H:t<m:=YP;have d4:(t:Int)<(m:Int):=YP;obtain ⟨T,hT⟩: ∃T:Nat,T=t + 1:=⟨_,R⟩;have d5:IntKind.i64.wrap ((t:Int) + 1)=(T:Int):=Zw;obtain ⟨a6,a,a',rfl,q,Y⟩:=e t H;have z:mz=mz:=rfl;have e3:Gt=Gt:=rfl;conv at z=>rhs;unfold mz;simp only[Try.f47]
  conv at e3=>rhs;unfold Gt mz;simp only[Try.f47]
  rw[z];unfold mj sL;obtain ⟨u,N,o⟩:=vo k.sz;rw[o 0 _ k.s0,o 8 _ k.s8,o 9 _ k.s9,o 10 _ k.oy]at N;rw[N]at L;refine aa.ah c λw c=> ?_;refine aa.ej (Q:=λP r=>P= #[R7 (S ⟨n,0,none⟩) J J,u 1,u 2,u 3,u 4,u 5,u 6,u 7,R7 (S ⟨a6,0,none⟩) m A,R5 R6 m,R5 R6 t,.bool true,u 12,u 13,u 14,u 15,u 16,u 17,u 18,u 19,u 20,u 21,u 22,u 23,u 24,u 25,u 26,u 27,u 28,u 29,u 30,u 31]/\r.heap=v.heap) bh ⟨_,Try.func47⟩ Zt Zs YU YU c L (λV=> ?_) ?_
  ·clear c L O d o N k e q Y hT;go_wp2
   rfl
  rintro c4 x2 y2 C w2 F2 a4 c5 ⟨rfl,p⟩ c f;refine aa.ah c λw c=> ?_;refine aa.go c YR (λ_=>bH (f.bool R)) λw c=> ?_;simp only[if_true];refine aa.dh c λw c=> ?_;refine aa.ah c λw c=> ?_;refine aa.aV c λw c=> ?_;refine aa.ah c λw c=> ?_;have Z:C.rangeAt a6 (t * 2) [R5 R6 (B t),R3 R4 a a']:=λi u o=>(aA.heap p).2 _ _ (q i u o);refine aa.ej (Q:=λP r=>P= #[R7 (S ⟨n,0,none⟩) J J,u 1,u 2,u 3,u 4,R8 (S ⟨C.heap.size,0,none⟩),u 6,u 7,R7 (S ⟨a6,0,none⟩) m A,R5 R6 m,R5 R6 t,.bool true,R8 (S ⟨a6,t * 2,none⟩),.agg #[R5 R6 (B t),R3 R4 a a'],u 14,u 15,u 16,u 17,u 18,u 19,u 20,u 21,u 22,u 23,u 24,u 25,u 26,u 27,u 28,u 29,u 30,u 31]/\r.cell? ⟨C.heap.size,0,none⟩=S (R5 R6 (B t))/\r.cell? ⟨C.heap.size,1,none⟩=S (R3 R4 a a')/\ar C r) bh ⟨_,Try.func47⟩ Zt Zs YU YU c f (λV=> ?_) ?_
  ·have d6:(aK C V 0).cell? ⟨a6,t * 2,none⟩=S (R5 R6 (B t)):=Z 0 _ R;have d7:(aK C V 0).cell? ⟨a6,t * 2 + 1,none⟩=S (R3 R4 a a'):=Z 1 _ R;clear c L f O d o N k hT p Z e q Y;have d8:=aW;go_wp2
   exact ⟨R,jz (aK C V 0) _ _ _ 0 _ R,jz (aK C V 0) _ _ _ 1 _ R,ar.alloc (aK C V 0) _⟩
  rintro b1 x3 y3 v3 w3 F3 a5 c6 ⟨rfl,b3,b4,b5⟩ c W;have a7:aA v v3:=(aA.heap p).trans b5.av;have a0:=a4.trans a5;rw[<-e3];refine Ic (Xi:=Xi (B t)) (ci:=ci) (co:=co) c W R R R hJ (a3 t H) (O.av a7) b3 b4 (a0 _ _ (d _ (a3 t H))) (hr _ (a3 t H)) (hV t _ H Y) λd9 v4 F4 x4 y4 w4 c7 a1 b6 g c a8=> ?_;refine aa.cd c λw c=> ?_;have b7:x4[0]? =_:=(g 0 YP).trans R;have b8:x4[8]? =_:=(g 8 YP).trans R;have b9:x4[9]? =_:=(g 9 YP).trans R;have a2:x4[10]? =_:=(g 10 YP).trans R;obtain ⟨u4,a9,I⟩:=vo b6;rw[I 0 _ b7,I 8 _ b8,I 9 _ b9,I 10 _ a2]at a9;rw[a9]at a8;refine aa.ej (Q:=λP r=>P= #[R7 (S ⟨n,0,none⟩) J J,u4 1,u4 2,u4 3,u4 4,u4 5,u4 6,u4 7,R7 (S ⟨a6,0,none⟩) m A,R5 R6 m,R5 R6 T,u4 11,u4 12,u4 13,u4 14,u4 15,u4 16,u4 17,u4 18,u4 19,u4 20,u4 21,R5 R6 T,u4 23,u4 24,u4 25,u4 26,u4 27,u4 28,u4 29,u4 30,u4 31]/\r.heap=v4.heap) bh ⟨_,Try.func47⟩ Zt Zs YU YU c a8 (λV=> ?_) ?_
  ·clear c L f W a8 O d o N k hT p Z e q Y b3 b4 b5 a7 g a9 I a1 b7 b8 b9 a2;go_wp2
   rfl
  rintro c9 x5 y5 v5 w5 F5 d0 e0 ⟨rfl,c1⟩ c d1;refine aa.dw c λw c=> ?_;rw[e3,<-z];subst hT;have hg:aA v v5:=(a7.trans (aA.heap a1)).trans (aA.heap c1);exact ih (t + 1) c9 v5 F5 w _ y5 YP c (λi hi=>d0 _ _ (c7 _ _ (a0 _ _ (d i hi)))) (O.av hg) (e.av hg) ⟨R,R,R,R,R⟩ d1
theorem DG(T:J<=1000)(o:m<=1000000)(V: ∀p,p<J->s (2 * p)=S (Xi p))(q: ∀t,t<m->B t<J)(W: ∀t u,t<m->aS u (X t)->E.V (2 * B t) t u)
  (K: ∀r x H I,At E r x H j I->aa Try.prog E false oI Lg gU 0 s [] (.work false [] []) H (G (M.finish (.tuple #[])) l) I)(a:At E e v F j w)(d: ∀i,i<J->e[ci i]? =S (Xi i,.chan))(L:lx v n J ci co)(f:fI v b m B X)
  (N:aB e #[R7 (S ⟨n,0,none⟩) J J,.slice b m A] y):
  aa Try.prog E false oI Lg gU 0 s [] (.work false [] (sL J (mj B m 0) 0)) F (G (ak 47 (y ++ J5 30 U) [.code PQ]) (M::l)) w:=by
 have c:=N.ei 30;rw[Pn]at c;have O:PQ=PQ:=rfl;have g:mz=mz:=rfl;have P:CM=CM:=rfl;conv at O=>rhs;unfold PQ;simp only[Try.f47]
 conv at g=>rhs;unfold mz;simp only[Try.f47]
 conv at P=>rhs;unfold CM;simp only[Try.f47]
 rw[O];refine aa.ah a λw a=> ?_;refine aa.ah a λw a=> ?_;refine aa.ej (Q:=λY x=>Y= #[R7 (S ⟨n,0,none⟩) J J,.slice b m A,U,U,U,U,U,U,.slice b m A,R5 R6 m,R5 R6 (0:Nat),U,U,U,U,U,U,U,U,U,U,U,U,U,U,U,U,U,U,U,U,U]/\x.heap=v.heap) bh ⟨_,Try.func47⟩ Zt Zs YU YU a c (λtp=> ?_) ?_
 ·clear a N c L d f;go_wp2
  rfl
 rintro z x2 Z v2 w2 F2 C a0 ⟨rfl,k⟩ a D;refine aa.aV a λw a=> ?_;refine aa.dO a λw a=> ?_;rw[<-g,<-P];exact Bf T o V q W K m 0 z v2 F2 w _ Z YP a (λi hi=>C _ _ (d i hi)) (L.av (aA.heap k)) (f.av (aA.heap k)) ⟨R,R,R,R,R⟩ D
end
section
variable {ρ:aU}
theorem Bq {l:Nat}{ci co Xi:Nat->Nat}(K:E.on)(a:At E ρ v F (oD E.Wg 46 y A n) w)(o:A≠n)(c:aB ρ #[R8 (S ⟨m,0,none⟩),R8 (S ⟨W,0,none⟩)] y)
  (D:v.cell? ⟨m,0,none⟩=S (R7 (S ⟨N,0,none⟩) J J))(G:v.cell? ⟨W,0,none⟩=S (.slice b V l))(M:J<=1000)(p:V<=1000000)(O: ∀j,j<J->s (2 * j)=S (Xi j))(q: ∀t,t<V->B t<J)(P: ∀t u,t<V->aS u (X t)->E.V (2 * B t) t u)
  (d: ∀i,i<J->ρ[ci i]? =S (Xi i,.chan))(H:lx v N J ci co)(e:fI v b V B X):
  ∃T,mC Try.prog E s T (λ_ _=>True) (sL J (mj B V 0) 0) F (born Try.prog (CE A n)) w:=by
 have r:y.size=2:=by have:=c.1;simpa using this.symm
 refine kX a o Try.func46 R R λw a=> ?_;have f:aB ρ #[R8 (S ⟨m,0,none⟩),R8 (S ⟨W,0,none⟩),U,U,U] (y ++ J5 (Try.f46.ntmps - y.size) U):=by rw[r];exact c.ei 3
 refine aa.aC a λw a=> ?_;refine aa.ops (L:= [0,1]) (rest:= [2]) (ey:= #[_,_]) (Q:=λY Z=>Y= #[R8 (S ⟨m,0,none⟩),R8 (S ⟨W,0,none⟩),R7 (S ⟨N,0,none⟩) J J,.slice b V l,U]/\Z.heap=v.heap) bh ⟨_,Try.func46⟩ Zt 0 (.cons ⟨_,R,R,Zs,R⟩ (.cons ⟨_,R,R,Zs,R⟩ (.nil))) Zs YU YU a f (λI=> ?_) ?_
 ·have g1:(aK v I 0).cell? ⟨m,0,none⟩=S (R7 (S ⟨N,0,none⟩) J J):=D;have g2:(aK v I 0).cell? ⟨W,0,none⟩=S (.slice b V l):=G;clear a f c d D G H e;go_wp2
  rfl
 ·rintro x x2 y2 v2 w2 F2 z a0 ⟨rfl,g⟩ a k;refine aa.go a YR (λ_=>fM R R R Try.func47 R R) λw a=> ?_;have C:aB x #[R7 (S ⟨N,0,none⟩) J J,.slice b V l] ((#[.tmp 2,.tmp 3]:Array K1).map (J2 ⟨y2,[]⟩)):=rf (k.ev (t:=2) R) (k.ev (t:=3) R);refine DG (Lg:=λ_ _=>True) (Xi:=Xi) (ci:=ci) (co:=co) M p O q P (λa1 v3 F3 w3 a=> ?_) a (λi hi=>z _ _ (d i hi)) (H.av (aA.heap g)) (e.av (aA.heap g)) C;rw[bu R];refine aa.aH a λw a=> ?_;refine aa.gQ a λw a=> ?_;refine aa.go a YR (λ_=>dT Try.func46 R) λw a=> ?_;exact ib a K (λ_ _=>trivial) _
theorem Bo {C D f g Xi Xo:Nat}{Gg:C2}{j:Nat->dM}(h0:E.on)(a:At E e v F (oD E.Wg 45 y A i) w)(G:A≠i)(b:aB e #[R8 (S ⟨J,0,none⟩),R8 (S ⟨W,0,none⟩)] y)
  (k:v.cell? ⟨J,0,none⟩=S (R8 (S ⟨N,0,none⟩)))(l:v.cell? ⟨W,0,none⟩=S (.chan (S f)))(c:v.cell? ⟨W,1,none⟩=S (.chan (S g)))(o:e[f]? =S (Xi,.chan))(p:e[g]? =S (Xo,.chan))(H:s C=S Xi)(I:s D=S Xo)
  (q:aF v N V n Gg j aI)(hn:n<=16)(K: ∀t u,t<m->E.V C (B t) u->aS u (X t))(r: ∀t u,t<m->aS u (hU Gg n j aI X t)->E.V D (B t) u):
  ∃T,mC Try.prog E s T (λ_ _=>True) (iX C D B m 0) F (born Try.prog (CE A i)) w:=by
 have M:y.size=2:=by have:=b.1;simpa using this.symm
 refine kX a G Try.func45 R R λw a=> ?_;have x:aB e #[R8 (S ⟨J,0,none⟩),R8 (S ⟨W,0,none⟩),U,U,U,U,U,U] (y ++ J5 (Try.f45.ntmps - y.size) U):=by rw[M];exact b.ei 6
 refine aa.aC a λw a=> ?_;refine aa.ops (L:= [0,1,2,3,4]) (rest:= [5]) (ey:= #[_,_,_,_,_]) (Q:=λx' v'=>x'= #[R8 (S ⟨J,0,none⟩),R8 (S ⟨W,0,none⟩),R8 (S ⟨N,0,none⟩),R8 (S ⟨W,0,none⟩),.chan (S f),R8 (S ⟨W,1,none⟩),.chan (S g),U]/\v'.heap=v.heap) bh ⟨_,Try.func45⟩ Zt 0 (.cons ⟨_,R,R,Zs,R⟩ (.cons ⟨_,R,R,Zs,R⟩ (.cons ⟨_,R,R,Zs,R⟩ (.cons ⟨_,R,R,Zs,R⟩ (.cons ⟨_,R,R,Zs,R⟩ (.nil)))))) Zs YU YU a x (λO=> ?_) ?_
 ·have g1:(aK v O 0).cell? ⟨J,0,none⟩=S (R8 (S ⟨N,0,none⟩)):=k;have g2:(aK v O 0).cell? ⟨W,0,none⟩=S (.chan (S f)):=l;have g3:(aK v O 0).cell? ⟨W,1,none⟩=S (.chan (S g)):=c;clear a x b q o p k l c;go_wp2
  rfl
 ·rintro P x2 y2 v2 w2 F2 z a0 ⟨rfl,Y⟩ a d;refine aa.go a YR (λ_=>fM R R R Try.func36 R R) λw a=> ?_;have Z:aB P #[R8 (S ⟨N,0,none⟩),.chan (S f),.chan (S g)] ((#[.tmp 2,.tmp 4,.tmp 6]:Array K1).map (J2 ⟨y2,[]⟩)):=FW (d.ev (t:=2) R) (d.ev (t:=4) R) (d.ev (t:=6) R);refine uZ (Lg:=λ_ _=>True) hn K r H I (λa1 v3 F3 w3 a=> ?_) a (z _ _ o) (z _ _ p) (q.heap Y) Z;rw[bu R];refine aa.aH a λw a=> ?_;refine aa.gQ a λw a=> ?_;refine aa.go a YR (λ_=>dT Try.func45 R) λw a=> ?_;exact ib a h0 (λ_ _=>trivial) _
end
noncomputable def my:K9:=match Try.f19.body with | some (.seq _ (.seq _ (.seq _ (.seq _ (.seq _ (.seq _ (.seq (.seq _ (.block _ (.loop c))) _)))))))=>c | _=> .skip
noncomputable def Kb:Array Q0:=match my with | .seq _ (.seq _ (.seq (.block _ (.seq _ (.seq (.region _ o _) _))) _))=>o | _=> #[]
theorem Ef:(Try.prog.info? 116).bind (·.zero)=S (.agg #[.chan none,.chan none]):=Zs
def ow (a b:Nat):Array J8:= #[.chan (S a),.chan (S b)]
def Bp (v:World)(b:Nat)(c:Array J8):Prop:=v.heap[b]? =S (.cells c 116 (0,0))
theorem Bp.keep{b:Nat}{c:Array J8}(h:Bp v b c)(k:ar v w):Bp w b c:=(k.2 b (aG h)).trans h
theorem Bp.new{c:Array J8}(e:w.heap=v.heap.push (.cells c 116)):Bp w v.heap.size c:=by unfold Bp;grind
theorem Gb {y:K1}(a:o.op= .build 116 #[(0,x),(1,y)])(b:d x= .chan (S n))(c:d y= .chan (S m)):(J4 d o).run Try.prog w= .ok (.value (.agg (ow n m))) w:=by unfold J4 ow;simp only[a,O1,P6,Q1,b,c];go_simp
theorem Gm {y:K1}{c:J8}(b:o.op= .store 116 x y)(f:d x= R8 (S ⟨n,0,none⟩))(g:d y= .agg (ow m A))(a:Bp w n #[u,c]): ∃e,(J4 d o).run Try.prog w= .ok .skip e/\e.heap=w.heap.setIfInBounds n (.cells (ow m A) 116 (0,0)):=by
 have k:w.cell? ⟨n,0,none⟩=S u:=by unfold L9;rw[a];rfl
 have l:w.cell? ⟨n,1,none⟩=S c:=by unfold L9;rw[a];rfl
 have p:w.frozen? ⟨n,0,none⟩=false:=by unfold L8;rw[a];rfl
 have q:w.frozen? ⟨n,1,none⟩=false:=by unfold L8;rw[a];rfl
 refine ⟨(w.setCell ⟨n,0,none⟩ (.chan (S m))).setCell ⟨n,1,none⟩ (.chan (S A)),?_,?_⟩
 ·unfold J4 ow at *;simp only[b,f,g];go_simp
 ·apply N3;intro i;rw[heap_set,heap_set,J1];by_cases h:n=i
  ·subst h;have j:=aG a;rw[if_pos R,if_pos R,if_pos R,if_pos j,a];rfl
  grind
theorem Cb {a:Act}{y:K1}{d:J8}(c:o.op= .store 116 x y)(e:a.eval x= R8 (S ⟨n,0,none⟩))(f:a.eval y= .agg (ow m A))(g:Bp w n #[u,d])(h: ∀b,b.heap=w.heap.setIfInBounds n (.cells (ow m A) 116 (0,0))->t U b):bD Try.prog o a w t:=by obtain ⟨b,i,j⟩:=Gm c e f g;exact ij i (h b j)
structure SC (ρ:aU)(v:World)(F:aq)(x:Array J8)(r:ca)(j:Nat)(dn:Array Bool)(s:CO):Prop where
 wx:Wx ρ s.ρ
 low:ar v s.v
 qP:F.le s.F
 sz:s.x.size=88
 same: ∀k:Nat,k≠53->k≠54->k≠55->k≠14->s.x[k]? =x[k]?
 rr: ∀c,c≠2 * j->c≠2 * j + 1->s.r c=r c
 n0:dn.getD 0 false=false->s.r (2 * j)=none
 n1:dn.getD 1 false=false->s.r (2 * j + 1)=none
 d0:dn.getD 0 false=true-> ∃b X,s.x[53]? =S (.chan (S b))/\s.ρ[b]? =S (X,.chan)/\s.r (2 * j)=S X
 d1:dn.getD 1 false=true-> ∃b X,s.x[54]? =S (.chan (S b))/\s.ρ[b]? =S (X,.chan)/\s.r (2 * j + 1)=S X
 d2:dn.getD 2 false=true->dn.getD 0 false=true/\dn.getD 1 false=true/\ ∃a a',s.x[53]? =S (.chan (S a))/\s.x[54]? =S (.chan (S a'))/\s.x[55]? =S (.agg (ow a a'))
 d3:dn.getD 3 false=true-> ∃b,s.x[14]? =S (ptr b)/\v.heap.size<=b/\(dn.getD 4 false=false->Bp s.v b #[.chan none,.chan none])/\(dn.getD 4 false=true-> ∃a a',s.x[55]? =S (.agg (ow a a'))/\Bp s.v b (ow a a'))
 Gy:dn.getD 4 false=true->dn.getD 2 false=true/\dn.getD 3 false=true
section
variable {Sp:ca->Tr->bC->List Ak->aq->Goroutine->World->Prop}{r:ca}{val:cH}{x:Array Value}{j:Nat}{pl:List (List Ak)}{s:List Ak}
theorem ar.QU {a:World}{b:Obj}(h:ar w v)(e:a.heap=v.heap.setIfInBounds n b)(d:w.heap.size<=n):ar w a:=⟨by rw[e];simpa using h.1,λi c=>by rw[e,J1,if_neg YP];exact h.2 i c⟩
theorem Ib (m:At E e v F val w)(C:aB e x y)(a7:x.size=88)(a8:r (2 * j)=none)(a9:r (2 * j + 1)=none)
  (K: ∀ (r':ca)(t:aU)(N:World)(F':aq)(x' y':Array Value)(w':World)(a2 b0 A X0 J:Nat),Wx e t->ar v N->F.le F'->x'.size=88->(∀k:Nat,k≠53->k≠54->k≠55->k≠14->x'[k]? =x[k]?)->x'[14]? =S (ptr a2)->v.heap.size<=a2->Bp N a2 (ow b0 A)->t[b0]? =S (X0,.chan)->t[A]? =S (J,.chan)->r' (2 * j)=S X0->r' (2 * j + 1)=S J->(∀c,c≠2 * j->c≠2 * j + 1->r' c=r c)->At E t N F' val w'->aB t x' y'->aa Try.prog E true Sp D a n r' z (.work p pl s) F' (G (ak 19 y' k) l) w'):
  aa Try.prog E true Sp D a n r z (.work p pl s) F (G (ak 19 y (.code (.region 15 Kb true)::k)) l) w:=by
 have a5:Kb=Kb:=rfl;conv at a5=>rhs;unfold Kb my;simp only[Try.f19]
 rw[a5];refine aa.order (I:=SC e v F x r j) Zt Zs Zs m C ?_ ?_ ?_
 ·exact ⟨λ_ _ h=>h,ar.refl _,aq.le_refl _,a7,λ_ _ _ _ _=>rfl,λ_ _ _=>rfl,λ_=>a8,λ_=>a9,λh=>by simp at h,λh=>by simp at h,λh=>by simp at h,λh=>by simp at h,λh=>by simp at h⟩
 ·intro L i o f b3 d b2 ho hi hd K2 y w m C;have hk:i<5:=by simpa using (Array.getElem?_eq_some_iff.1 ho).1
  have a1:L.size=5:=by simpa using b2
  have u:=cz hi a1 hk;have q: ∀k,k≠i->(L.setIfInBounds i true).getD k false=L.getD k false:=λk hk=>M5 false (Ne.symm hk);have gi:=bS a1 hk;have gm: ∀k,L.getD k false=true->(L.setIfInBounds i true).getD k false=true:=λk h=>by
   by_cases b4:k=i
   ·grind
   ·rw[q k b4];exact h
  rcases (by omega:i=0\/i=1\/i=2\/i=3\/i=4)with rfl | rfl | rfl | rfl | rfl
  all_goals obtain rfl:=L2 ho
  ·have u2:L.getD 2 false=false:=by
    cases M:L.getD 2 false with
    | false=>rfl
    | true=>rw[(d.d2 M).1]at u;cases u
   have T:L.getD 4 false=false:=by
    cases O:L.getD 4 false with
    | false=>rfl
    | true=>rw[(d.Gy O).1]at u2;cases u2
   refine aa.zO (i:=0) (c:=2 * j) rfl m C rfl rfl rfl rfl (d.n0 u) λw' X m C=> ?_;have hs:(f.x.setIfInBounds 53 (.chan (S f.ρ.size)))[53]? =S (.chan (S f.ρ.size)):=aE d.sz YQ;have Y:ar f.v (zq f.v):=ar.push rfl;have P: ∀c,c≠2 * j->f.r.put (2 * j) X c=f.r c:=λc hc=>by unfold ca.put;rw[if_neg hc]
   have a3:f.r.put (2 * j) X (2 * j)=S X:=by unfold ca.put;rw[if_pos rfl]
   exact K2 ⟨f.r.put (2 * j) X,f.ρ.push (X,.chan),zq f.v,f.F,f.x.setIfInBounds 53 (.chan (S f.ρ.size))⟩ ⟨λb a0 h=>ja _ _ _ _ (d.wx b a0 h),d.low.trans Y,d.qP,by simpa using d.sz,λk W M h3 O=>by rw[Array.getElem?_setIfInBounds_ne (Ne.symm W)];exact d.same k W M h3 O,
    λc W M=>(P c W).trans (d.rr c W M),λh=>(by rw[gi]at h;cases h),λh=>(P _ YP).trans (d.n1 (by rw[q 1 YQ]at h;exact h)),
    λ_=>⟨_,X,hs,YR,a3⟩,λh=>by
     obtain ⟨A,J,B,H,q3⟩:=d.d1 (by rw[q 1 YQ]at h;exact h);exact ⟨A,J,ab B YQ,ja _ _ _ _ H,(P _ YP).trans q3⟩,λh=>(by rw[q 2 YQ,u2]at h;cases h),λh=>by
     obtain ⟨b,B,H,q3,q4⟩:=d.d3 (by rw[q 3 YQ]at h;exact h);exact ⟨b,ab B YQ,H,λ_=>(q3 T).keep Y,λh=>by rw[q 4 YQ,T]at h;cases h⟩,λh=>(by rw[q 4 YQ,T]at h;cases h)⟩ _ _ m C
  ·have u2:L.getD 2 false=false:=by
    cases M:L.getD 2 false with
    | false=>rfl
    | true=>rw[(d.d2 M).2.1]at u;cases u
   have T:L.getD 4 false=false:=by
    cases O:L.getD 4 false with
    | false=>rfl
    | true=>rw[(d.Gy O).1]at u2;cases u2
   refine aa.zO (i:=1) (c:=2 * j + 1) rfl m C rfl rfl rfl rfl (d.n1 u) λw' X m C=> ?_;have hs:(f.x.setIfInBounds 54 (.chan (S f.ρ.size)))[54]? =S (.chan (S f.ρ.size)):=aE d.sz YQ;have Y:ar f.v (zq f.v):=ar.push rfl;have P: ∀c,c≠2 * j + 1->f.r.put (2 * j + 1) X c=f.r c:=λc hc=>by unfold ca.put;rw[if_neg hc]
   have a3:f.r.put (2 * j + 1) X (2 * j + 1)=S X:=by unfold ca.put;rw[if_pos rfl]
   exact K2 ⟨f.r.put (2 * j + 1) X,f.ρ.push (X,.chan),zq f.v,f.F,f.x.setIfInBounds 54 (.chan (S f.ρ.size))⟩ ⟨λb a0 h=>ja _ _ _ _ (d.wx b a0 h),d.low.trans Y,d.qP,by simpa using d.sz,λk W M h3 O=>by rw[Array.getElem?_setIfInBounds_ne (Ne.symm M)];exact d.same k W M h3 O,
    λc W M=>(P c M).trans (d.rr c W M),λh=>(P _ YP).trans (d.n0 (by rw[q 0 YQ]at h;exact h)),λh=>(by rw[gi]at h;cases h),
    λh=>by
     obtain ⟨A,J,B,H,q3⟩:=d.d0 (by rw[q 0 YQ]at h;exact h);exact ⟨A,J,ab B YQ,ja _ _ _ _ H,(P _ YP).trans q3⟩,λ_=>⟨_,X,hs,YR,a3⟩,λh=>(by rw[q 2 YQ,u2]at h;cases h),λh=>by
     obtain ⟨b,B,H,q3,q4⟩:=d.d3 (by rw[q 3 YQ]at h;exact h);exact ⟨b,ab B YQ,H,λ_=>(q3 T).keep Y,λh=>by rw[q 4 YQ,T]at h;cases h⟩,λh=>(by rw[q 4 YQ,T]at h;cases h)⟩ _ _ m C
  ·have g0:=hd ⟨0,.data⟩ YR rfl;have g1:=hd ⟨1,.data⟩ YR rfl;obtain ⟨b0,X0,p1,p2,p3⟩:=d.d0 g0;obtain ⟨A,J,B,H,q3⟩:=d.d1 g1;have T:L.getD 4 false=false:=by
    cases O:L.getD 4 false with
    | false=>rfl
    | true=>rw[(d.Gy O).1]at u;cases u
   refine aa.fP (R:=λu N=>u= .agg (ow b0 A)/\N.heap=f.v.heap) bh ⟨_,Try.func19⟩ Zt rfl rfl Zs YU YU m C (λtp=>aL (Gb rfl (ay p1) (ay B)) ⟨rfl,rfl⟩) ?_;rintro t y' N w' F' u' Z hF ⟨rfl,Q⟩ m C;have V:=ar.heap Q;exact K2 ⟨f.r,t,N,F',f.x.setIfInBounds 55 (.agg (ow b0 A))⟩ ⟨λb a0 h=>Z _ _ (d.wx b a0 h),d.low.trans V,aq.le_trans d.qP hF,by simpa using d.sz,λk W M h3 O=>by rw[Array.getElem?_setIfInBounds_ne (Ne.symm h3)];exact d.same k W M h3 O,
    d.rr,λh=>(by rw[q 0 YQ,g0]at h;cases h),λh=>(by rw[q 1 YQ,g1]at h;cases h),λ_=>⟨b0,X0,ab p1 YQ,Z _ _ p2,p3⟩,λ_=>⟨A,J,ab B YQ,Z _ _ H,q3⟩,
    λ_=>⟨gm _ g0,gm _ g1,b0,A,ab p1 YQ,ab B YQ,aE d.sz YQ⟩,λh=>by obtain ⟨b,m1,m2,m3,m4⟩:=d.d3 (by rw[q 3 YQ]at h;exact h);exact ⟨b,ab m1 YQ,m2,λ_=>(m3 T).keep V,λh=>by rw[q 4 YQ,T]at h;cases h⟩,λh=>(by rw[q 4 YQ,T]at h;cases h)⟩ _ _ m C
  ·have T:L.getD 4 false=false:=by
    cases O:L.getD 4 false with
    | false=>rfl
    | true=>rw[(d.Gy O).2]at u;cases u
   refine aa.fP (R:=λu N=>u=ptr f.v.heap.size/\N.heap=f.v.heap.push (.cells #[.chan none,.chan none] 116)) bh ⟨_,Try.func19⟩ Zt rfl rfl Zs YU YU m C (λtp=>aL (ll rfl Ef) ⟨rfl,rfl⟩) ?_;rintro t y' N w' F' u' Z hF ⟨rfl,Q⟩ m C;have V:=ar.push Q;exact K2 ⟨f.r,t,N,F',f.x.setIfInBounds 14 (ptr f.v.heap.size)⟩ ⟨λb a0 h=>Z _ _ (d.wx b a0 h),d.low.trans V,aq.le_trans d.qP hF,by simpa using d.sz,λk W M h3 O=>by rw[Array.getElem?_setIfInBounds_ne (Ne.symm O)];exact d.same k W M h3 O,
    d.rr,λh=>d.n0 (by rw[q 0 YQ]at h;exact h),λh=>d.n1 (by rw[q 1 YQ]at h;exact h),λh=>by
     obtain ⟨A,J,B,H,q3⟩:=d.d0 (by rw[q 0 YQ]at h;exact h);exact ⟨A,J,ab B YQ,Z _ _ H,q3⟩,λh=>by
     obtain ⟨A,J,B,H,q3⟩:=d.d1 (by rw[q 1 YQ]at h;exact h);exact ⟨A,J,ab B YQ,Z _ _ H,q3⟩,λh=>by
     obtain ⟨m1,m2,a4,a',m3,m4,m5⟩:=d.d2 (by rw[q 2 YQ]at h;exact h);exact ⟨gm _ m1,gm _ m2,a4,a',ab m3 YQ,ab m4 YQ,ab m5 YQ⟩,λ_=>⟨_,aE d.sz YQ,d.low.1,λ_=>Bp.new Q,λh=>by rw[q 4 YQ,T]at h;cases h⟩,λh=>(by rw[q 4 YQ,T]at h;cases h)⟩ _ _ m C
  ·have g2:=hd ⟨2,.data⟩ YR rfl;have g3:=hd ⟨3,.data⟩ YR rfl;obtain ⟨g0,g1,a4,a',p1,p2,p3⟩:=d.d2 g2;obtain ⟨b,m1,m2,m3,_⟩:=d.d3 g3;have hb:=m3 u;refine aa.fP (R:=λ_ N=>N.heap=f.v.heap.setIfInBounds b (.cells (ow a4 a') 116 (0,0))) bh ⟨_,Try.func19⟩ Zt rfl rfl Zs YU YU m C (λtp=>Cb rfl (ay m1) (ay p3) (show Bp (aK f.v tp 0) b _ from hb) λw' h=>h) ?_;rintro t y' N w' F' u' Z hF Q m C;have hB:Bp N b (ow a4 a'):=by unfold Bp;rw[Q,Array.getElem?_setIfInBounds,if_pos rfl,if_pos (aG hb)]
   exact K2 ⟨f.r,t,N,F',f.x⟩ ⟨λb a0 h=>Z _ _ (d.wx b a0 h),d.low.QU Q m2,aq.le_trans d.qP hF,d.sz,d.same,d.rr,λh=>(by rw[q 0 YQ,g0]at h;cases h),λh=>(by rw[q 1 YQ,g1]at h;cases h),λ_=>by
     obtain ⟨A,J,B,H,q3⟩:=d.d0 g0;exact ⟨A,J,B,Z _ _ H,q3⟩,λ_=>by
     obtain ⟨A,J,B,H,q3⟩:=d.d1 g1;exact ⟨A,J,B,Z _ _ H,q3⟩,λ_=>⟨gm _ g0,gm _ g1,a4,a',p1,p2,p3⟩,λ_=>⟨b,m1,m2,λh=>(by rw[gi]at h;cases h),λ_=>⟨a4,a',p3,hB⟩⟩,λ_=>⟨gm _ g2,gm _ g3⟩⟩ _ _ m C
 ·intro L f d a6 y w m C;have g:=λi hi=>a6 i (show i<5 from hi);obtain ⟨b0,X0,p1,p2,p3⟩:=d.d0 (g 0 YQ);obtain ⟨A,J,B,H,q3⟩:=d.d1 (g 1 YQ);obtain ⟨_,_,a4,a',m1,m2,m3⟩:=d.d2 (g 2 YQ);obtain ⟨b,n1,n2,_,n4⟩:=d.d3 (g 3 YQ);obtain ⟨c,c',k1,k2⟩:=n4 (g 4 YQ);rw[p1]at m1;cases m1;rw[B]at m2;cases m2;rw[m3]at k1;simp only[ow,N7,Value.agg.injEq,Array.mk.injEq,List.cons.injEq,Value.chan.injEq,and_true]at k1;obtain ⟨rfl,rfl⟩:=k1;exact K f.r f.ρ f.v f.F f.x y w b b0 A X0 J d.wx d.low d.qP d.sz d.same n1 n2 k2 p2 H p3 q3 d.rr m C
end
noncomputable def xi:K9:=match Try.f19.body with | some (.seq _ (.seq _ (.seq _ (.seq _ (.seq _ (.seq _ (.seq _ c)))))))=>c | _=> .skip
theorem vp(h:y.size=88): ∃u:Nat->Value,y= #[u 0,u 1,u 2,u 3,u 4,u 5,u 6,u 7,u 8,u 9,u 10,u 11,u 12,u 13,u 14,u 15,u 16,u 17,u 18,u 19,u 20,u 21,u 22,u 23,u 24,u 25,u 26,u 27,u 28,u 29,u 30,u 31,u 32,u 33,u 34,u 35,u 36,u 37,u 38,u 39,u 40,u 41,u 42,u 43,u 44,u 45,u 46,u 47,u 48,u 49,u 50,u 51,u 52,u 53,u 54,u 55,u 56,u 57,u 58,u 59,u 60,u 61,u 62,u 63,u 64,u 65,u 66,u 67,u 68,u 69,u 70,u 71,u 72,u 73,u 74,u 75,u 76,u 77,u 78,u 79,u 80,u 81,u 82,u 83,u 84,u 85,u 86,u 87]/\ ∀ (i:Nat) v,y[i]? =S v->u i=v:=by obtain ⟨u,a,b⟩:=pT h;exact ⟨u,a,b⟩
structure PY (x:Array J8)(bT bG bP A n j:Nat):Prop where
 sz:x.size=88
 s3:x[3]? =S (ptr bT)
 oy:x[10]? =S (ptr bG)
 eX:x[11]? =S (ptr bP)
 Sa:x[46]? =S (R7 (S ⟨A,0,none⟩) n n)
 Sb:x[47]? =S (R5 R6 n)
 Sc:x[48]? =S (R5 R6 j)
def pk (r:ca)(ρ:aU)(v:World)(d j:Nat):Prop:= ∀i,i<j-> ∃a b X c,v.rangeAt d (i * 2) [.chan (S a),.chan (S b)]/\ρ[a]? =S (X,.chan)/\ρ[b]? =S (c,.chan)/\r (2 * i)=S X/\r (2 * i + 1)=S c
structure sH (ρ:aU)(v:World)(F:aq)(N1 n Pb kU bP:Nat):Prop where
 row: ∃c,v.heap[Pb]? =S (.cells c 116 (0,0))/\c.size=n * 2
 nm:ρ[Pb]? =S (kU,.cells)
 box:v.cell? ⟨bP,0,none⟩=S (R7 (S ⟨Pb,0,none⟩) n n)
 own:F.wr kU/\F.rd kU
 ne:bP≠Pb
 hi:N1<=Pb/\N1<=bP
theorem sH.low {ρ:aU}{v':World}{a:aq}{Pb kU bP:Nat}(h:sH ρ v F m n Pb kU bP)(g:Wx ρ e)(b:ar v v')(d:F.le a):sH e v' a m n Pb kU bP where
 row:=by obtain ⟨c,f,i⟩:=h.row;exact ⟨c,(b.2 _ (aG f)).trans f,i⟩
 nm:=g _ _ h.nm
 box:=b.cell h.box
 own:=⟨d.wr _ h.own.1,d.rd _ h.own.2⟩
 ne:=h.ne
 hi:=h.hi
theorem pk.low{ρ:aU}{v':World}{Pb j:Nat}(h:pk s ρ v Pb j)(b:Wx ρ e)(c:aA v v'):pk s e v' Pb j:=λi d=>by obtain ⟨a,f,X,g,l,m,n,o,p⟩:=h i d;exact ⟨a,f,X,g,λk u q=>c.2 _ _ (l k u q),b _ _ m,b _ _ n,o,p⟩
theorem pk.put {r r':ca}{ρ:aU}{j:Nat}(h:pk r ρ v n j)(d: ∀c,c<2 * j->r' c=r c):pk r' ρ v n j:=λi b=>by obtain ⟨a,e,X,f,g,k,l,m,o⟩:=h i b;grind
section
variable {val:cH}{Gn:Nat->C2}{sec:Nat->Nat->dM}{L Lr:Nat->Nat}{bT bP Pb kU:Nat}{s:List Ak}{J0:Nat}
theorem Br (hs:PS w m n A T B L)(h0:E.on)(hV:E.V=Vy J Z T Gn sec X)(hn:n<=1000)(i7: ∀i,i<n->T i<=16)(i8: ∀b ob,val.bk b=S ob-> ∀i,i<n->b≠Lr i)(i9: ∀b ob,val.bk b=S ob->b≠kU)
  (a3: ∀ (r:ca)(lg:List bC)(ρ:aU)(v:World)(F:aq)(I:World)(x y:Array Value),At E ρ v F val I->gy E e w n A T Gn sec B L Lr N n ρ v->FK F T Lr n n->m<=v.heap.size->PY x bT N bP A n n->sH ρ v F m n Pb kU bP->pk r ρ v Pb n->aB ρ x y->
   aa Try.prog E true (mC Try.prog E) D a 0 r lg (.work false [sL J0 (mj Z J 0) 0] s) F (G (ak 19 y [.code xi]) l) I):
  ∀ (k j:Nat)(r:ca)(lg:List bC)(ρ:aU)(v:World)(F:aq)(I:World)(x y:Array Value),j + k=n->At E ρ v F val I->gy E e w n A T Gn sec B L Lr N j ρ v->FK F T Lr n j->m<=v.heap.size->PY x bT N bP A n j->sH ρ v F m n Pb kU bP->pk r ρ v Pb j->(∀c,2 * j<=c->r c=none)->aB ρ x y->
   aa Try.prog E true (mC Try.prog E) D a 0 r lg (.work false (vT J0 (mj Z J 0) k j) s) F (G (ak 19 y [.code my,.inLoop my,.inBlock 2,.code xi]) l) I:=by
 intro k;induction k with
 | zero=>
  intro j r lg ρ v F I x y hq g hJ hK hN hX hR hP a7 hv;have q:j=n:=YP;subst q;have m9: ¬ ((j:Int)<(j:Int)):=YP;have c4:my=my:=rfl;conv at c4=>rhs;unfold my;simp only[Try.f19]
  rw[c4];unfold vT;obtain ⟨u,hx,H⟩:=vp hX.sz;rw[H 3 _ hX.s3,H 10 _ hX.oy,H 11 _ hX.eX,H 46 _ hX.Sa,H 47 _ hX.Sb,H 48 _ hX.Sc]at hx;rw[hx]at hv;refine aa.ah g λI g=> ?_;refine aa.ej (Q:=λx' v'=>x'= #[u 0,u 1,u 2,ptr bT,u 4,u 5,u 6,u 7,u 8,u 9,ptr N,ptr bP,u 12,u 13,u 14,u 15,u 16,u 17,u 18,u 19,u 20,u 21,u 22,u 23,u 24,u 25,u 26,u 27,u 28,u 29,u 30,u 31,u 32,u 33,u 34,u 35,u 36,u 37,u 38,u 39,u 40,u 41,u 42,u 43,u 44,u 45,R7 (S ⟨A,0,none⟩) j j,R5 R6 j,R5 R6 j,.bool false,u 50,u 51,u 52,u 53,u 54,u 55,u 56,u 57,u 58,u 59,u 60,u 61,u 62,u 63,u 64,u 65,u 66,u 67,u 68,u 69,u 70,u 71,u 72,u 73,u 74,u 75,u 76,u 77,u 78,u 79,u 80,u 81,u 82,u 83,u 84,u 85,u 86,u 87]/\v'.heap=v.heap) bh ⟨_,Try.func19⟩ Zt Zs YU YU g hv (λtp=> ?_) ?_
  ·clear g hv hJ hK hR hP H hx hX hs a3;go_wp2
   rfl
  rintro j0 x2 y2 v2 w2 F2 b3 d0 ⟨rfl,c5⟩ g b4;refine aa.ah g λI g=> ?_;refine aa.go g YR (λ_=>bH (b4.bool R)) λI g=> ?_;simp only[J6, ↓reduceIte];refine aa.go g YR (λ_=>fe R) λI g=> ?_;have K:=ar.heap c5;exact a3 r lg j0 v2 F2 I _ y2 g (hJ.low hs b3.w (dV.of K hN)) (hK.le d0) (Nat.le_trans hN K.1) ⟨R,R,R,R,R,R,R⟩ (hR.low b3.w K d0) (hP.low b3.w K.av) b4
 | succ k ih=>
  intro j r lg ρ v F I x y hq g hJ hK hN hX hR hP a7 hv;have q:j<n:=YP;have n0:(j:Int)<(n:Int):=YP;obtain ⟨j1,hT⟩: ∃j1:Nat,j1=j + 1:=⟨_,R⟩;have n1:IntKind.i64.wrap ((j:Int) + 1)=(j1:Int):=Zw;have c4:my=my:=rfl;have f7:Kb=Kb:=rfl;conv at c4=>rhs;unfold my;simp only[Try.f19]
  conv at f7=>rhs;unfold Kb my;simp only[Try.f19]
  rw[c4];obtain ⟨u,hx,H⟩:=vp hX.sz;rw[H 3 _ hX.s3,H 10 _ hX.oy,H 11 _ hX.eX,H 46 _ hX.Sa,H 47 _ hX.Sb,H 48 _ hX.Sc]at hx;rw[hx]at hv;refine aa.ah g λI g=> ?_;refine aa.ej (Q:=λx' v'=>x'= #[u 0,u 1,u 2,ptr bT,u 4,u 5,u 6,u 7,u 8,u 9,ptr N,ptr bP,u 12,u 13,u 14,u 15,u 16,u 17,u 18,u 19,u 20,u 21,u 22,u 23,u 24,u 25,u 26,u 27,u 28,u 29,u 30,u 31,u 32,u 33,u 34,u 35,u 36,u 37,u 38,u 39,u 40,u 41,u 42,u 43,u 44,u 45,R7 (S ⟨A,0,none⟩) n n,R5 R6 n,R5 R6 j,.bool true,u 50,u 51,u 52,u 53,u 54,u 55,u 56,u 57,u 58,u 59,u 60,u 61,u 62,u 63,u 64,u 65,u 66,u 67,u 68,u 69,u 70,u 71,u 72,u 73,u 74,u 75,u 76,u 77,u 78,u 79,u 80,u 81,u 82,u 83,u 84,u 85,u 86,u 87]/\v'.heap=v.heap) bh ⟨_,Try.func19⟩ Zt Zs YU YU g hv (λtp=> ?_) ?_
  ·clear g hv hJ hK hR hP H hx hX hs a3 hT ih a7;go_wp2
   rfl
  rintro j0 x2 y2 v2 w2 F2 b3 d0 ⟨rfl,c5⟩ g b4;refine aa.ah g λI g=> ?_;refine aa.go g YR (λ_=>bH (b4.bool R)) λI g=> ?_;simp only[if_true];refine aa.dh g λI g=> ?_;refine aa.ah g λI g=> ?_;refine aa.aV g λI g=> ?_;refine aa.ah g λI g=> ?_;have K:=ar.heap c5;have d1:=hJ.low hs b3.w (dV.of K hN);have d8:=hK.le d0;have d2:=hR.low b3.w K d0;have d9:=hP.low b3.w K.av;have f8:=Nat.le_trans hN K.1;refine aa.ej (Q:=λx' v'=>x'= #[u 0,u 1,u 2,ptr bT,u 4,u 5,u 6,u 7,u 8,u 9,ptr N,ptr bP,R5 R6 j,ptr v2.heap.size,u 14,u 15,u 16,u 17,u 18,u 19,u 20,u 21,u 22,u 23,u 24,u 25,u 26,u 27,u 28,u 29,u 30,u 31,u 32,u 33,u 34,u 35,u 36,u 37,u 38,u 39,u 40,u 41,u 42,u 43,u 44,u 45,R7 (S ⟨A,0,none⟩) n n,R5 R6 n,R5 R6 j,.bool true,R5 R6 j,R8 (S ⟨A,j,none⟩),ptr (B j),u 53,u 54,u 55,u 56,u 57,u 58,u 59,u 60,u 61,u 62,u 63,u 64,u 65,u 66,u 67,u 68,u 69,u 70,u 71,u 72,u 73,u 74,u 75,u 76,u 77,u 78,u 79,u 80,u 81,u 82,u 83,u 84,u 85,u 86,u 87]/\v'.heap=v2.heap.push (.cells #[ptr (B j)] 50)) bh ⟨_,Try.func19⟩ Zt Zs YU YU g b4 (λtp=> ?_) ?_
  ·have n2:(aK v2 tp 0).cell? ⟨A,j,none⟩=S (R8 (S ⟨B j,0,none⟩)):=d1.works j q;clear g hv hJ hK hR hP H hx hX hs a3 hT ih a7 b4 d1 d8 d2 d9 K c5;unfold ptr;go_wp2
   exact ⟨R,R⟩
  rintro n3 x3 y3 v3 w3 F3 f9 j2 ⟨rfl,b7⟩ g j3;have a8:=ar.push b7;have g0:=d1.low hs f9.w (dV.of a8 f8);have g1:=d8.le j2;have g2:=d2.low f9.w a8 j2;have g3:=d9.low f9.w a8.av;have j4:=Nat.le_trans f8 a8.1;have d3:=Bx.new b7;refine aa.ah g λI g=> ?_;rw[<-f7];refine Ib (j:=j) g j3 R (a7 _ YP) (a7 _ YP) λr6 V v6 F6 x6 y6 I o b0 b1 X0 X1 g4 b5 j5 f3 C e0 n4 a9 j6 j7 e1 e2 e3 g c6=> ?_;rw[f7];have a0:=g0.low hs g4 (dV.of b5 j4);have d4:=g1.le j5;have z:=g2.low g4 b5 j5;have g5:=(g3.low g4 b5.av).put (r':=r6) λc hc=>e3 c YP YP;have m3:=Nat.le_trans j4 b5.1;have b6:=d3.keep b5;have z3:x6[3]? =S (ptr bT):=(C 3 YQ YQ YQ YQ).trans R;have e4:x6[10]? =S (ptr N):=(C 10 YQ YQ YQ YQ).trans R;have g6:x6[11]? =S (ptr bP):=(C 11 YQ YQ YQ YQ).trans R;have g7:x6[12]? =S (R5 R6 j):=(C 12 YQ YQ YQ YQ).trans R;have g8:x6[13]? =S (ptr v2.heap.size):=(C 13 YQ YQ YQ YQ).trans R;have g9:x6[46]? =S (R7 (S ⟨A,0,none⟩) n n):=(C 46 YQ YQ YQ YQ).trans R;have h5:x6[47]? =S (R5 R6 n):=(C 47 YQ YQ YQ YQ).trans R;have h6:x6[48]? =S (R5 R6 j):=(C 48 YQ YQ YQ YQ).trans R;clear j3 b4 hv;refine aa.ah g λI g=> ?_;refine aa.aC g λI g=> ?_;refine aa.go g YR (λ_=>qi (d:=56) R R R R) λI g=> ?_;obtain ⟨a1,a4⟩: ∃a1,a1=(#[.tmp 13,.tmp 14]:Array K1).map (J2 ⟨y6,[]⟩):=⟨_,R⟩;have h7:aB V #[ptr v2.heap.size,ptr o] a1:=by rw[a4];exact rf (c6.ev g8) (c6.ev e0)
  rw[<-a4];have e5:=aB.set (i:=56) c6 (VR.qH (r:=V) (.func (.func 45) #[] a1) trivial);have d5:J2 ⟨y6.setIfInBounds 56 (.func (.func 45) #[] a1),[]⟩ (.tmp 56)= .func (.func 45) #[] a1:=ay (aE (n:=88) (by rw[<-c6.1];exact f3) YQ);have h8: ∀i,i<n->i≠j->Lr i≠Lr j:=λi hi h9 b8=>hs.inj i j hi q h9 (g.bQ.inj _ _ _ _ _ (a0.links i hi) (by rw[b8];exact a0.links j q) YQ YQ);have e6: ∀i,i<n->Lr i≠kU:=λi hi b8=>by have:=g.bQ.inj _ _ _ _ _ (a0.links i hi) (by rw[b8];exact z.nm) YQ YQ;have:=(hs.JE i hi).1;have:=z.hi.1;omega
  have hp:Kd F6 (λx=>0<T j/\x=Lr j) (λx=>kT T Lr n (j + 1) x\/x=kU):=⟨d4.cl,λb hb=>d4.kw b ⟨j,Nat.le_refl _,q,hb⟩,λb hb=>hb.elim (λ⟨i,h1,h2,h3⟩=>d4.kw b ⟨i,YP,h2,h3⟩) (λb8=>by rw[b8];exact z.own),λb hb hk=>hk.elim (λ⟨i,h1,h2,h3⟩=>h8 i h2 YP (h3.2.symm.trans hb.2)) (λb8=>e6 j q (hb.2.symm.trans b8))⟩;have i0: ∀x,(0<T j/\x=Lr j)-> ∃i,i<n/\0<T i/\x=Lr i:=λx h=>⟨j,q,h⟩;have M: ∀b,m<=b-> ∀i,i<n->0<T i->b≠L i:=λb hb i hi _=>by have:=(hs.JE i hi).1;omega
  have c7: ∀ {W:Nat->Prop}{b2:Addr}{u:Value},v6.cell? b2=S u->(∀i,i<n->0<T i->b2.block≠L i)->b2.block≠Pb->(dL V (λx=>kT T Lr n (j + 1) x\/x=kU) W v6).cell? b2=S u:=λh ho i1=>bz h λx hx hX=>by
   rcases hX with ⟨i,_,h2,h3,rfl⟩ | rfl
   ·exact ho i h2 h3 (g.bQ.inj _ _ _ _ _ hx (a0.links i h2) YQ YQ)
   ·exact i1 (g.bQ.inj _ _ _ _ _ hx z.nm YQ YQ)
  have m7:Pb<v2.heap.size:=by obtain ⟨c,h1,_⟩:=d2.row;exact aG h1
  unfold vT;rw[qf (i:=j) (nm:=λk=>(lX j (mj Z J 0) 0).getD k 0) (mj Z J 0) 0 0 λi x hx=>by rw[Nat.zero_add,List.getD_eq_getElem?_getD,hx];rfl];refine kY (L:=λ_ _=>True) (Wc:=λx=>0<T j/\x=Lr j) (KW:=λx=>kT T Lr n (j + 1) x\/x=kU) g h0 hp (λb ob hb=>⟨λb8=>i8 b ob hb j q b8.2,λh=>h.elim (λ⟨i,_,h2,h3⟩=>i8 b ob hb i h2 h3.2) (i9 b ob hb)⟩) (λx hx=>by
   rcases hx with ⟨_,rfl⟩ | ⟨i,_,h2,_,rfl⟩ | rfl
   ·exact ⟨L j,a0.links j q⟩
   ·exact ⟨L i,a0.links i h2⟩
   ·exact ⟨Pb,z.nm⟩) (λ_ _ _ _ _=>trivial) R R R ((e5.ev (ab e4 YQ)).at a0.Gz) d5 (λw4 A' B' i1 j8=> ?_) λI d6=> ?_
  ·have n5:=K.1;have n6:=a8.1;have j9:v6.rangeAt o 0 [.chan (S b0),.chan (S b1)]:=λi u H=>by unfold World.cell?;rw[show v6.heap[o]? =_ from a9];unfold ow;rw[Nat.zero_add];simpa using H
   have k7:=a0.dp j (Nat.le_refl _) q;refine Bo (X:=zF J Z X j) h0 j8 i1 h7 (c7 b6.cell (M _ f8) (by show v2.heap.size≠Pb;omega)) (c7 (j9 0 _ R) (M _ (by show m<=o;omega)) (by show o≠Pb;omega)) (c7 (j9 1 _ R) (M _ (by show m<=o;omega)) (by show o≠Pb;omega)) j6 j7 e1 e2 (k7.mv (λk u H=>c7 H (λk hk _=>hs.BR k j hk q) (by have:=(hs.JE j q).2;have:=z.hi.1;show B j≠Pb;omega)) (λm4=> ?_) (by rw[bq];omega)) (i7 j q) (λt u ht h=> ?_) (λt u ht h=> ?_)
   ·have k8:=k7.lt.2.1;have:=jS (X:=λx=>kT T Lr n (j + 1) x\/x=kU) (Wk:=λx=>0<T j/\x=Lr j) (h:=Array.getElem?_eq_getElem k8) (a0.links j q) ⟨m4,R⟩;rw[this,Array.getElem?_eq_getElem k8]
   ·rw[hV]at h;exact (show aS u (X _)from Jr.1 h)
   ·rw[hV];exact CU.2 ⟨t,by rw[List.getD_eq_getElem?_getD,List.getElem?_eq_getElem ht];rfl,h⟩
  have a5:=g.bQ;replace g:=d6;have e7:=a0.next hs a5 q (W:=λx=>kT T Lr n (j + 1) x\/x=kU) (λ_ h=> .inl h);have e8:FK (fX F6 (λx=>0<T j/\x=Lr j) (λx=>kT T Lr n (j + 1) x\/x=kU)) T Lr n (j + 1):=⟨λ_ _ h=>h,λx hx=>⟨.inl hx,(hp.kw x (.inl hx)).2,λb8=>hp.lN x b8 (.inl hx)⟩⟩;have sn: ∀ {b2:Addr}{u:Value},v6.cell? b2=S u->(∀i,i<n->0<T i->b2.block≠L i)->(dL V (λx=>0<T j/\x=Lr j) (λx=>kT T Lr n (j + 1) x\/x=kU) v6).cell? b2=S u:=λh ho=>a0.seen a5 i0 h ho;have O:sH V (dL V (λx=>0<T j/\x=Lr j) (λx=>kT T Lr n (j + 1) x\/x=kU) v6) (fX F6 (λx=>0<T j/\x=Lr j) (λx=>kT T Lr n (j + 1) x\/x=kU)) m n Pb kU bP:=by obtain ⟨c,h1,h2⟩:=z.row;exact ⟨⟨c,jS h1 z.nm (.inr R),h2⟩,z.nm,sn z.box (M _ z.hi.2),⟨.inr R,z.own.2,λb8=>e6 j q b8.2.symm⟩,z.ne,z.hi⟩
  have e9:pk r6 V (dL V (λx=>0<T j/\x=Lr j) (λx=>kT T Lr n (j + 1) x\/x=kU) v6) Pb j:=λi hi=>by obtain ⟨b2,a',Y,Y',h1,h2⟩:=g5 i hi;exact ⟨b2,a',Y,Y',λk u H=>sn (h1 k u H) (M _ z.hi.1),h2⟩
  have b9:(dL V (λx=>0<T j/\x=Lr j) (λx=>kT T Lr n (j + 1) x\/x=kU) v6).cell? ⟨o,0,none⟩=S (.chan (S b0)):=sn (by unfold World.cell?;rw[show v6.heap[o]? =_ from a9];rfl) (M _ (by show m<=o;omega));have c1:(dL V (λx=>0<T j/\x=Lr j) (λx=>kT T Lr n (j + 1) x\/x=kU) v6).cell? ⟨o,1,none⟩=S (.chan (S b1)):=sn (by unfold World.cell?;rw[show v6.heap[o]? =_ from a9];rfl) (M _ (by show m<=o;omega));have k9:m<=(dL V (λx=>0<T j/\x=Lr j) (λx=>kT T Lr n (j + 1) x\/x=kU) v6).heap.size:=by rw[bq];exact m3
  have m8:o≠Pb:=by have:=K.1;have:=a8.1;omega
  generalize dL V (λx=>0<T j/\x=Lr j) (λx=>kT T Lr n (j + 1) x\/x=kU) v6=v8 at g e7 O e9 b9 c1 k9;generalize fX F6 (λx=>0<T j/\x=Lr j) (λx=>kT T Lr n (j + 1) x\/x=kU)=F8 at g e8 O ⊢;have d7:=aB.set (i:=57) e5 (VR.unit (ρ:=V));change aa _ _ _ _ _ _ _ _ _ _ _ (G (ak 19 ((y6.setIfInBounds 56 (.func (.func 45) #[] a1)).setIfInBounds 57 (.tuple #[])) _) _) _;have mv: ∀ {k:Nat}{u:Value},x6[k]? =S u->56≠k->57≠k->((x6.setIfInBounds 56 .nilFunc).setIfInBounds 57 (.tuple #[]))[k]? =S u:=λh h1 h2=>ab (ab h h1) h2;have l0:((x6.setIfInBounds 56 .nilFunc).setIfInBounds 57 (.tuple #[])).size=88:=by simpa using f3
  refine aa.aH g λI g=> ?_;obtain ⟨u8,f0,a2⟩:=vp l0;rw[a2 3 _ (mv z3 YQ YQ),a2 10 _ (mv e4 YQ YQ),a2 11 _ (mv g6 YQ YQ),a2 12 _ (mv g7 YQ YQ),a2 14 _ (mv e0 YQ YQ),a2 46 _ (mv g9 YQ YQ),a2 47 _ (mv h5 YQ YQ),a2 48 _ (mv h6 YQ YQ)]at f0;rw[f0]at d7;generalize (y6.setIfInBounds 56 (.func (.func 45) #[] a1)).setIfInBounds 57 (.tuple #[])=y8 at d7 ⊢;obtain ⟨cs,P,i2⟩:=O.row;refine aa.ej (Q:=λx' v'=>x'= #[u8 0,u8 1,u8 2,ptr bT,u8 4,u8 5,u8 6,u8 7,u8 8,u8 9,ptr N,ptr bP,R5 R6 j,u8 13,ptr o,u8 15,u8 16,u8 17,u8 18,u8 19,u8 20,u8 21,u8 22,u8 23,u8 24,u8 25,u8 26,u8 27,u8 28,u8 29,u8 30,u8 31,u8 32,u8 33,u8 34,u8 35,u8 36,u8 37,u8 38,u8 39,u8 40,u8 41,u8 42,u8 43,u8 44,u8 45,R7 (S ⟨A,0,none⟩) n n,R5 R6 n,R5 R6 j,u8 49,u8 50,u8 51,u8 52,u8 53,u8 54,u8 55,u8 56,u8 57,R7 (S ⟨Pb,0,none⟩) n n,R5 R6 j,.agg (ow b0 b1),R8 (S ⟨Pb,j * 2,none⟩),u8 62,u8 63,u8 64,u8 65,u8 66,u8 67,u8 68,u8 69,u8 70,u8 71,u8 72,u8 73,u8 74,u8 75,u8 76,u8 77,u8 78,u8 79,u8 80,u8 81,u8 82,u8 83,u8 84,u8 85,u8 86,u8 87]/\v'.heap=((v8.setCell ⟨Pb,j * 2,none⟩ (.chan (S b0))).setCell ⟨Pb,j * 2 + 1,none⟩ (.chan (S b1))).heap) bh ⟨_,Try.func19⟩ Zt Zs YU YU g d7 (λtp=> ?_) ?_
  ·have k0:(aK v8 tp 0).cell? ⟨bP,0,none⟩=S (R7 (S ⟨Pb,0,none⟩) n n):=O.box;have k1:(aK v8 tp 0).cell? ⟨o,0,none⟩=S (.chan (S b0)):=b9;have k2:(aK v8 tp 0).cell? ⟨o,1,none⟩=S (.chan (S b1)):=c1;obtain ⟨p0,l1⟩: ∃p,cs[j * 2]? =S p:=⟨_,Array.getElem?_eq_getElem YP⟩;obtain ⟨p1,l2⟩: ∃p,cs[j * 2 + 1]? =S p:=⟨_,Array.getElem?_eq_getElem YP⟩;have k3:(aK v8 tp 0).cell? ⟨Pb,j * 2,none⟩=S p0:=by show v8.cell? _=_;unfold World.cell?;rw[P];exact l1
   have k4:(aK v8 tp 0).cell? ⟨Pb,j * 2 + 1,none⟩=S p1:=by show v8.cell? _=_;unfold World.cell?;rw[P];exact l2
   have k5:(aK v8 tp 0).frozen? ⟨Pb,j * 2,none⟩=false:=by show v8.frozen? _=_;unfold World.frozen?;rw[P];simp
   have k6:(aK v8 tp 0).frozen? ⟨Pb,j * 2 + 1,none⟩=false:=by show v8.frozen? _=_;unfold World.frozen?;rw[P];simp
   clear g hJ hK hR hP H hx hX hs a3 hT ih a7 c6 e5 d7 d1 g0 a0 e7 d8 g1 d4 e8 d2 g2 z O d9 g3 g5 e9 K a8 b5 c5 b7 d3 b6 a9 e3 e1 e2 hp f0 a2 mv z3 e4 g6 g7 g8 g9 h5 h6 e0 h7 a4 d5 c7 sn i0 M C a5 d6 h8 e6 P i2 l1 l2 b9 c1;unfold ow ptr;go_wp2
   rfl
  rintro l3 x9 y9 v9 w9 F9 c9 i3 ⟨rfl,c2⟩ g l4;have f1: ∀b,b≠Pb->v9.heap[b]? =v8.heap[b]? :=λb hb=>by rw[c2,heap_set,if_neg (Ne.symm hb),heap_set,if_neg (Ne.symm hb)]
  have a6:v9.heap[Pb]? =S (.cells ((cs.setIfInBounds (j * 2) (.chan (S b0))).setIfInBounds (j * 2 + 1) (.chan (S b1))) 116 (0,0)):=by rw[c2,heap_set,if_pos R,heap_set,if_pos R,P];rfl
  have f4:v9.heap.size=v8.heap.size:=by rw[c2];simp[World.setCell]
  have f5:Ty v8 v9:=λb c b8 f hb=>by
   by_cases l5:b=Pb
   ·subst l5;rw[P]at hb;cases hb;exact ⟨_,_,a6⟩
   ·exact ⟨c,f,by rw[f1 b l5];exact hb⟩
  have l6:dV m v8 v9:=⟨YP,λb hb=>f1 b (by have:=O.hi.1;omega),f5⟩;have l7:=e7.low hs c9.w l6;have l8:=e8.le i3;have c3: ∀b2 u,b2.block≠Pb->v8.cell? b2=S u->v9.cell? b2=S u:=λb2 u ha h=>by unfold World.cell? at h ⊢;rw[f1 _ ha];exact h
  have l9:sH l3 v9 F9 m n Pb kU bP:=⟨⟨_,a6,by simpa using i2⟩,c9 _ _ O.nm,c3 _ _ O.ne O.box,⟨i3.wr _ O.own.1,i3.rd _ O.own.2⟩,O.ne,O.hi⟩;have i4: ∀i,v9.cell? ⟨Pb,i,none⟩=((cs.setIfInBounds (j * 2) (.chan (S b0))).setIfInBounds (j * 2 + 1) (.chan (S b1)))[i]? :=λi=>by unfold World.cell?;rw[a6];rfl
  have f6: ∀i,v8.cell? ⟨Pb,i,none⟩=cs[i]? :=λi=>by unfold World.cell?;rw[P];rfl
  have m0:pk r6 l3 v9 Pb (j + 1):=λi hi=>by
   by_cases h9:i=j
   ·subst h9;refine ⟨b0,b1,X0,X1,λk u H=> ?_,c9 _ _ j6,c9 _ _ j7,e1,e2⟩;rw[i4];rcases k with _ | _ | k
    ·show ((cs.setIfInBounds (i * 2) (.chan (S b0))).setIfInBounds (i * 2 + 1) (.chan (S b1)))[i * 2]? =_;rw[Array.getElem?_setIfInBounds,if_neg YP,Array.getElem?_setIfInBounds,if_pos R,if_pos YP];exact H
    ·rw[Nat.zero_add,Array.getElem?_setIfInBounds,if_pos R,if_pos YT];exact H
    ·simp at H
   ·obtain ⟨b2,a',Y,Y',h1,h2,h3,h4⟩:=e9 i YP;refine ⟨b2,a',Y,Y',λk u H=> ?_,c9 _ _ h2,c9 _ _ h3,h4⟩;have hk:k<2:=by have:=(List.getElem?_eq_some_iff.1 H).1;simpa using this
    have:=h1 k u H;rw[f6]at this;rw[i4,Array.getElem?_setIfInBounds,if_neg YP,Array.getElem?_setIfInBounds,if_neg YP];exact this
  have i5:m<=v9.heap.size:=by rw[f4];exact k9
  refine aa.cd g λI g=> ?_;refine aa.ej (Q:=λx' v'=>x'= #[u8 0,u8 1,u8 2,ptr bT,u8 4,u8 5,u8 6,u8 7,u8 8,u8 9,ptr N,ptr bP,R5 R6 j,u8 13,ptr o,u8 15,u8 16,u8 17,u8 18,u8 19,u8 20,u8 21,u8 22,u8 23,u8 24,u8 25,u8 26,u8 27,u8 28,u8 29,u8 30,u8 31,u8 32,u8 33,u8 34,u8 35,u8 36,u8 37,u8 38,u8 39,u8 40,u8 41,u8 42,u8 43,u8 44,u8 45,R7 (S ⟨A,0,none⟩) n n,R5 R6 n,R5 R6 j1,u8 49,u8 50,u8 51,u8 52,u8 53,u8 54,u8 55,u8 56,u8 57,R7 (S ⟨Pb,0,none⟩) n n,R5 R6 j,.agg (ow b0 b1),R8 (S ⟨Pb,j * 2,none⟩),R5 R6 j1,u8 63,u8 64,u8 65,u8 66,u8 67,u8 68,u8 69,u8 70,u8 71,u8 72,u8 73,u8 74,u8 75,u8 76,u8 77,u8 78,u8 79,u8 80,u8 81,u8 82,u8 83,u8 84,u8 85,u8 86,u8 87]/\v'.heap=v9.heap) bh ⟨_,Try.func19⟩ Zt Zs YU YU g l4 (λtp=> ?_) ?_
  ·clear g hJ hK hR hP H hx hX hs a3 hT ih a7 c6 e5 d7 d1 g0 a0 e7 d8 g1 d4 e8 d2 g2 z O d9 g3 g5 e9 K a8 b5 c5 b7 d3 b6 a9 e3 e1 e2 hp f0 a2 mv z3 e4 g6 g7 g8 g9 h5 h6 e0 h7 a4 d5 c7 sn i0 M C a5 d6 h8 e6 P i2 b9 c1 l4 f1 a6 f4 f5 l6 l7 l8 c3 l9 i4 f6 m0 i5 c2;go_wp2
   rfl
  rintro m5 xa ya va wa Fa i6 m1 ⟨rfl,m2⟩ g m6;refine aa.dw g λI g=> ?_;rw[<-c4];subst hT;have f2:=ar.heap m2;exact ih (j + 1) r6 _ m5 va Fa I _ ya YP g (l7.low hs i6.w (dV.of f2 i5)) (l8.le m1) (Nat.le_trans i5 f2.1) ⟨R,R,R,R,R,R,R⟩ (l9.low i6.w f2 m1) (m0.low i6.w f2.av) (λc hc=>(e3 c YP YP).trans (a7 c YP)) m6
end
noncomputable def pe:K9:=match xi with | .seq _ (.seq _ (.seq (.seq _ (.block _ (.loop c))) _))=>c | _=> .skip
noncomputable def NP:K9:=match xi with | .seq _ (.seq _ (.seq _ c))=>c | _=> .skip
def qK (v:World)(g t q:Nat)(Y:Nat->C2):Prop:= ∃c,v.heap[g]? =S (.cells c 26 (0,0))/\c.size=q/\ ∀j,j<t-> ∃u,c[j]? =S u/\aS u (Y j)
theorem qK.low {v':World}{g t:Nat}{Y:Nat->C2}(h:qK v g t n Y)(k:ar v v'):qK v' g t n Y:=by obtain ⟨c,a,b⟩:=h;exact ⟨c,(k.2 _ (aG a)).trans a,b⟩
theorem qK.IP(h:qK v n m m X):dy v n m X/\Ends v n m:=by obtain ⟨c,a,b,d⟩:=h;refine ⟨λj e=> ?_,c,_,_,a,b⟩;obtain ⟨u,g,f⟩:=d j e;exact ⟨u,by unfold L9;grind,f⟩
theorem Ge {y:K1}(a:o.op= .indexAddr 24 x y)(b:d x= R7 (S ⟨m,0,none⟩) n A)(c:d y= R5 R6 i)(h:i<n)(e:n<=1000000):(J4 d o).run Try.prog w= .ok (.value (R8 (S ⟨m,i,none⟩))) w:=by have f:(i:Int)<(n:Int):=YP;unfold J4;simp only[a,b,c];go_simp
theorem wM {y:K1}{z:J8}(a:o.op= .store 26 x y)(b:d x= .pointer (S Q))(c:d y= R3 R4 n m)(f:w.cell? Q=S z)(g:w.frozen? Q=false):(J4 d o).run Try.prog w= .ok .skip (w.setCell Q (R3 R4 n m)):=by have e:=aW;unfold J4;simp only[a,b,c];go_simp
structure Qt (x:Array J8)(bG bP g q cq t:Nat)(ad:Option O4):Prop where
 sz:x.size=88
 oy:x[10]? =S (ptr bG)
 eX:x[11]? =S (ptr bP)
 fR:x[15]? =S (R7 (S ⟨g,0,none⟩) q q)
 Sg:x[68]? =S (.slice ad q cq)
 Si:x[69]? =S (R5 R6 q)
 Sj:x[70]? =S (R5 R6 t)
structure PT (v:World)(bP Pb n q:Nat)(ad:Option O4)(tf:Nat->Nat)(X:Nat->C2)(ci co:Nat->Nat):Prop where
 box:v.cell? ⟨bP,0,none⟩=S (R7 (S ⟨Pb,0,none⟩) n n)
 ow:lx v Pb n ci co
 Qj:fI v ad q tf X
theorem PT.grow(h:PT v m A n i b B X T Z)(k:aA v w):PT w m A n i b B X T Z:=⟨k.2 _ _ h.box,h.ow.av k,h.Qj.av k⟩
theorem PT.but {v':World}{Y:Nat->C2}(h:PT v J W n N b B X T Z)(k: ∀a u,a.block≠m->v.cell? a=S u->v'.cell? a=S u)(g:J≠m)(l:W≠m)(o: ∀c,b=S ⟨c,0,none⟩->c≠m)(_:qK v m A i Y):PT v' J W n N b B X T Z where
 box:=k _ _ g h.box
 ow j hj d u f:=k _ _ l (h.ow j hj d u f)
 Qj j hj:=by obtain ⟨c,x,p,e,q,r⟩:=h.Qj j hj;exact ⟨c,x,p,e,λd u f=>k _ _ (o c e) (q d u f),r⟩
section
variable {lg:List bC}{iS:aU}{vb:World}{Y:Nat->C2}{ci co Xo:Nat->Nat}{bG:Nat}
theorem Bs (f5:m<=1000000)(hV: ∀t u,E.V (2 * B t + 1) t u->aS u (Y t))(hr: ∀i,i<n->s (2 * i + 1)=some (Xo i))(e1: ∀t,t<m->B t<n)(g1:J≠N)(g2:W≠N)(g3: ∀g,b=some ⟨g,0,none⟩->g≠N)
  (r: ∀ (ρ:aU)(v:World)(F:aq)(w:World)(x y:Array Value),At E ρ v F j w->Ty vb v->Wx iS ρ->qK v N m m Y->Qt x bG J N m A m b->ρ[bG]? =some (E.Wg,.cells)->aB ρ x y->aa Try.prog E true (mC Try.prog E) D a 0 s lg (.work false [] []) F (G (ak 19 y [.code NP]) l) w):
  ∀ (k t:Nat)(ρ:aU)(v:World)(F:aq)(w:World)(x y:Array Value),t + k=m->At E ρ v F j w->Ty vb v->Wx iS ρ->qK v N t m Y->PT v J W n m b B X ci co->(∀i,i<n->ρ[co i]? =some (Xo i,.chan))->Qt x bG J N m A t b->ρ[bG]? =some (E.Wg,.cells)->aB ρ x y->
   aa Try.prog E true (mC Try.prog E) D a 0 s lg (.work false [] (vC (mj B k t) t)) F (G (ak 19 y [.code pe,.inLoop pe,.inBlock 4,.code NP]) l) w:=by
 intro k;induction k with
 | zero=>
  intro t ρ v F w x y hk d P hW hO I V C hG hv;have e2:t=m:=YP;subst e2;have f6: ¬ ((t:Int)<(t:Int)):=YP;have a1:pe=pe:=rfl;conv at a1=>rhs;unfold pe xi;simp only[Try.f19]
  rw[a1];unfold mj vC;obtain ⟨u,hx,H⟩:=vp C.sz;rw[H 10 _ C.oy,H 11 _ C.eX,H 15 _ C.fR,H 68 _ C.Sg,H 69 _ C.Si,H 70 _ C.Sj]at hx;rw[hx]at hv;refine aa.ah d λw d=> ?_;refine aa.ej (Q:=λx' v'=>x'= #[u 0,u 1,u 2,u 3,u 4,u 5,u 6,u 7,u 8,u 9,ptr bG,ptr J,u 12,u 13,u 14,R7 (some ⟨N,0,none⟩) t t,u 16,u 17,u 18,u 19,u 20,u 21,u 22,u 23,u 24,u 25,u 26,u 27,u 28,u 29,u 30,u 31,u 32,u 33,u 34,u 35,u 36,u 37,u 38,u 39,u 40,u 41,u 42,u 43,u 44,u 45,u 46,u 47,u 48,u 49,u 50,u 51,u 52,u 53,u 54,u 55,u 56,u 57,u 58,u 59,u 60,u 61,u 62,u 63,u 64,u 65,u 66,u 67,.slice b t A,R5 R6 t,R5 R6 t,.bool false,u 72,u 73,u 74,u 75,u 76,u 77,u 78,u 79,u 80,u 81,u 82,u 83,u 84,u 85,u 86,u 87]/\v'.heap=v.heap) bh ⟨_,Try.func19⟩ Zt Zs YU YU d hv (λtp=> ?_) ?_
  ·clear d hv hO I H hx C r;go_wp2
   rfl
  rintro c9 x2 y2 o w2 F2 b0 e3 ⟨rfl,q⟩ d K;refine aa.ah d λw d=> ?_;refine aa.go d YR (λ_=>bH (K.bool rfl)) λw d=> ?_;simp only[J6, ↓reduceIte];refine aa.go d YR (λ_=>fe rfl) λw d=> ?_;exact r c9 o F2 w _ y2 d (P.trans (Ty.low (ar.heap q))) (λg z h=>b0 _ _ (hW g z h)) (hO.low (ar.heap q)) ⟨rfl,rfl,rfl,rfl,rfl,rfl,rfl⟩ (b0 _ _ hG) K
 | succ k ih=>
  intro t ρ v F w x y hk d P hW hO I V C hG hv;have b5:t<m:=YP;have f7:(t:Int)<(m:Int):=YP;have b6:=e1 t b5;have f3:((B t:Nat):Int)<(n:Int):=YP;obtain ⟨T,hT⟩: ∃T:Nat,T=t + 1:=⟨_,rfl⟩;have f8:IntKind.i64.wrap ((t:Int) + 1)=(T:Int):=Zw;obtain ⟨g,b1,a',rfl,M,b2⟩:=I.Qj t b5;have a1:pe=pe:=rfl;conv at a1=>rhs;unfold pe xi;simp only[Try.f19]
  rw[a1];unfold mj vC;obtain ⟨u,hx,H⟩:=vp C.sz;rw[H 10 _ C.oy,H 11 _ C.eX,H 15 _ C.fR,H 68 _ C.Sg,H 69 _ C.Si,H 70 _ C.Sj]at hx;rw[hx]at hv;refine aa.ah d λw d=> ?_;refine aa.ej (Q:=λx' v'=>x'= #[u 0,u 1,u 2,u 3,u 4,u 5,u 6,u 7,u 8,u 9,ptr bG,ptr J,u 12,u 13,u 14,R7 (some ⟨N,0,none⟩) m m,u 16,u 17,u 18,u 19,u 20,u 21,u 22,u 23,u 24,u 25,u 26,u 27,u 28,u 29,u 30,u 31,u 32,u 33,u 34,u 35,u 36,u 37,u 38,u 39,u 40,u 41,u 42,u 43,u 44,u 45,u 46,u 47,u 48,u 49,u 50,u 51,u 52,u 53,u 54,u 55,u 56,u 57,u 58,u 59,u 60,u 61,u 62,u 63,u 64,u 65,u 66,u 67,R7 (some ⟨g,0,none⟩) m A,R5 R6 m,R5 R6 t,.bool true,u 72,u 73,u 74,u 75,u 76,u 77,u 78,u 79,u 80,u 81,u 82,u 83,u 84,u 85,u 86,u 87]/\v'.heap=v.heap) bh ⟨_,Try.func19⟩ Zt Zs YU YU d hv (λtp=> ?_) ?_
  ·clear d hv hO I H hx C r hT ih M b2 V P hW;go_wp2
   rfl
  rintro c9 x2 y2 o w2 F2 b0 e3 ⟨rfl,q⟩ d K;refine aa.ah d λw d=> ?_;refine aa.go d YR (λ_=>bH (K.bool rfl)) λw d=> ?_;simp only[if_true];refine aa.dh d λw d=> ?_;refine aa.ah d λw d=> ?_;refine aa.aV d λw d=> ?_;refine aa.ah d λw d=> ?_;have a2:o.rangeAt g (t * 2) [R5 R6 (B t),R3 R4 b1 a']:=λi u H=>(aA.heap q).2 _ _ (M i u H);refine aa.ej (Q:=λx' v'=>x'= #[u 0,u 1,u 2,u 3,u 4,u 5,u 6,u 7,u 8,u 9,ptr bG,ptr J,u 12,u 13,u 14,R7 (some ⟨N,0,none⟩) m m,R5 R6 t,R8 (some ⟨o.heap.size,0,none⟩),u 18,u 19,u 20,u 21,u 22,u 23,u 24,u 25,u 26,u 27,u 28,u 29,u 30,u 31,u 32,u 33,u 34,u 35,u 36,u 37,u 38,u 39,u 40,u 41,u 42,u 43,u 44,u 45,u 46,u 47,u 48,u 49,u 50,u 51,u 52,u 53,u 54,u 55,u 56,u 57,u 58,u 59,u 60,u 61,u 62,u 63,u 64,u 65,u 66,u 67,R7 (some ⟨g,0,none⟩) m A,R5 R6 m,R5 R6 t,.bool true,R5 R6 t,R8 (some ⟨g,t * 2,none⟩),.agg #[R5 R6 (B t),R3 R4 b1 a'],u 75,u 76,u 77,u 78,u 79,u 80,u 81,u 82,u 83,u 84,u 85,u 86,u 87]/\v'.cell? ⟨o.heap.size,0,none⟩=some (R5 R6 (B t))/\ar o v') bh ⟨_,Try.func19⟩ Zt Zs YU YU d K (λtp=> ?_) ?_
  ·have f9:(aK o tp 0).cell? ⟨g,t * 2,none⟩=some (R5 R6 (B t)):=a2 0 _ rfl;have g0:(aK o tp 0).cell? ⟨g,t * 2 + 1,none⟩=some (R3 R4 b1 a'):=a2 1 _ rfl;clear d hv hO I H hx C r hT ih M b2 V P hW K q a2;have g4:=aW;go_wp2
   exact ⟨rfl,jz (aK o tp 0) _ _ _ 0 _ rfl,ar.alloc (aK o tp 0) _⟩
  rintro g5 x3 y3 v3 w3 F3 e4 g6 ⟨rfl,b7,a3⟩ d b8;have b9:=(aA.heap q).trans a3.av;have a4:=I.grow b9;have c1:=(hO.low (ar.heap q)).low a3;have a5:=(P.trans (Ty.low (ar.heap q))).trans (Ty.low a3);have d0:=b0.trans e4;refine aa.aC d λw d=> ?_;refine aa.ops (L:= [0,1,2,3,4,5,6,7]) (rest:= [8,9,10]) (ey:= #[_,_,_,_,_,_,_,_]) (Q:=λx' v'=>x'= #[u 0,u 1,u 2,u 3,u 4,u 5,u 6,u 7,u 8,u 9,ptr bG,ptr J,u 12,u 13,u 14,R7 (some ⟨N,0,none⟩) m m,R5 R6 t,R8 (some ⟨o.heap.size,0,none⟩),u 18,u 19,u 20,u 21,u 22,u 23,u 24,u 25,u 26,u 27,u 28,u 29,u 30,u 31,u 32,u 33,u 34,u 35,u 36,u 37,u 38,u 39,u 40,u 41,u 42,u 43,u 44,u 45,u 46,u 47,u 48,u 49,u 50,u 51,u 52,u 53,u 54,u 55,u 56,u 57,u 58,u 59,u 60,u 61,u 62,u 63,u 64,u 65,u 66,u 67,R7 (some ⟨g,0,none⟩) m A,R5 R6 m,R5 R6 t,.bool true,R5 R6 t,R8 (some ⟨g,t * 2,none⟩),.agg #[R5 R6 (B t),R3 R4 b1 a'],R7 (some ⟨N,0,none⟩) m m,R5 R6 t,R7 (some ⟨W,0,none⟩) n n,R8 (some ⟨o.heap.size,0,none⟩),R5 R6 (B t),R8 (some ⟨W,B t * 2,none⟩),R8 (some ⟨W,B t * 2 + 1,none⟩),.chan (some (co (B t))),u 83,u 84,u 85,u 86,u 87]/\v'.heap=v3.heap) bh ⟨_,Try.func19⟩ Zt 0 (.cons ⟨_,rfl,rfl,Zs,rfl⟩ (.cons ⟨_,rfl,rfl,Zs,rfl⟩ (.cons ⟨_,rfl,rfl,Zs,rfl⟩ (.cons ⟨_,rfl,rfl,Zs,rfl⟩ (.cons ⟨_,rfl,rfl,Zs,rfl⟩ (.cons ⟨_,rfl,rfl,Zs,rfl⟩ (.cons ⟨_,rfl,rfl,Zs,rfl⟩ (.cons ⟨_,rfl,rfl,Zs,rfl⟩ .nil)))))))) Zs YU YU d b8 (λtp=> ?_) ?_
  ·have k0:(aK v3 tp 0).cell? ⟨J,0,none⟩=some (R7 (some ⟨W,0,none⟩) n n):=a4.box;have k1:(aK v3 tp 0).cell? ⟨o.heap.size,0,none⟩=some (R5 R6 (B t)):=b7;have k2:(aK v3 tp 0).cell? ⟨W,B t * 2 + 1,none⟩=some (.chan (some (co (B t)))):=a4.ow _ b6 1 _ rfl;clear d hv hO I H hx C r hT ih M b2 V P hW K b8 q a2 b7 a3 b9 a4 c1 a5;unfold ptr;go_wp2
   rfl
  rintro d1 x4 y4 v4 w4 F4 e5 g7 ⟨rfl,a0⟩ d c2;have b3:=d0.trans e5;refine aa.EX (i:=8) (t:=102) d rfl rfl rfl (.inl rfl) rfl ((c2.ev (t:=82) rfl).tY (b3 _ _ (V _ b6))) (hr _ b6) λw z d hz=> ?_;have c3:=hV t z hz;obtain ⟨p,p',rfl,_⟩:=id c3;have Z:=aB.set (i:=83) c2 (show VR d1 (R3 R4 p p') (R3 R4 p p')from .complex _ _ _);change aB d1 #[u 0,u 1,u 2,u 3,u 4,u 5,u 6,u 7,u 8,u 9,ptr bG,ptr J,u 12,u 13,u 14,R7 (some ⟨N,0,none⟩) m m,R5 R6 t,R8 (some ⟨o.heap.size,0,none⟩),u 18,u 19,u 20,u 21,u 22,u 23,u 24,u 25,u 26,u 27,u 28,u 29,u 30,u 31,u 32,u 33,u 34,u 35,u 36,u 37,u 38,u 39,u 40,u 41,u 42,u 43,u 44,u 45,u 46,u 47,u 48,u 49,u 50,u 51,u 52,u 53,u 54,u 55,u 56,u 57,u 58,u 59,u 60,u 61,u 62,u 63,u 64,u 65,u 66,u 67,R7 (some ⟨g,0,none⟩) m A,R5 R6 m,R5 R6 t,.bool true,R5 R6 t,R8 (some ⟨g,t * 2,none⟩),.agg #[R5 R6 (B t),R3 R4 b1 a'],R7 (some ⟨N,0,none⟩) m m,R5 R6 t,R7 (some ⟨W,0,none⟩) n n,R8 (some ⟨o.heap.size,0,none⟩),R5 R6 (B t),R8 (some ⟨W,B t * 2,none⟩),R8 (some ⟨W,B t * 2 + 1,none⟩),.chan (some (co (B t))),R3 R4 p p',u 84,u 85,u 86,u 87] _ at Z;change aa _ _ _ _ _ _ _ _ _ _ _ (G (ak 19 (y4.setIfInBounds 83 (R3 R4 p p')) _) _) _;generalize y4.setIfInBounds 83 (R3 R4 p p')=y5 at Z ⊢;have c4:=c1.low (ar.heap a0);have d2:=a4.grow (aA.heap a0);obtain ⟨cs,hg,d3,d4⟩:=id c4;refine aa.fP (i:=9) (R:=λu v'=>u= R8 (some ⟨N,t,none⟩)/\v'.heap=v4.heap) bh ⟨_,Try.func19⟩ Zt rfl rfl Zs YU YU d Z (λtp=>aL (Ge (n:=m) rfl rfl rfl b5 YP) ⟨rfl,rfl⟩) ?_;rintro e6 y5 v5 w F5 u5 e7 g8 ⟨rfl,O⟩ d Z;change aB e6 #[u 0,u 1,u 2,u 3,u 4,u 5,u 6,u 7,u 8,u 9,ptr bG,ptr J,u 12,u 13,u 14,R7 (some ⟨N,0,none⟩) m m,R5 R6 t,R8 (some ⟨o.heap.size,0,none⟩),u 18,u 19,u 20,u 21,u 22,u 23,u 24,u 25,u 26,u 27,u 28,u 29,u 30,u 31,u 32,u 33,u 34,u 35,u 36,u 37,u 38,u 39,u 40,u 41,u 42,u 43,u 44,u 45,u 46,u 47,u 48,u 49,u 50,u 51,u 52,u 53,u 54,u 55,u 56,u 57,u 58,u 59,u 60,u 61,u 62,u 63,u 64,u 65,u 66,u 67,R7 (some ⟨g,0,none⟩) m A,R5 R6 m,R5 R6 t,.bool true,R5 R6 t,R8 (some ⟨g,t * 2,none⟩),.agg #[R5 R6 (B t),R3 R4 b1 a'],R7 (some ⟨N,0,none⟩) m m,R5 R6 t,R7 (some ⟨W,0,none⟩) n n,R8 (some ⟨o.heap.size,0,none⟩),R5 R6 (B t),R8 (some ⟨W,B t * 2,none⟩),R8 (some ⟨W,B t * 2 + 1,none⟩),.chan (some (co (B t))),R3 R4 p p',R8 (some ⟨N,t,none⟩),u 85,u 86,u 87] _ at Z;have d5:=c4.low (ar.heap O);have d6:=d2.grow (aA.heap O);have a6:=(congrArg (λh:Array Obj=>h[N]?) O).trans hg;obtain ⟨p0,d7⟩: ∃p,cs[t]? =some p:=⟨_,Array.getElem?_eq_getElem YP⟩;refine aa.fP (i:=10) (R:=λ_ v'=>v'.heap=(v5.setCell ⟨N,t,none⟩ (R3 R4 p p')).heap) bh ⟨_,Try.func19⟩ Zt rfl rfl Zs YU YU d Z (λtp=>ij (wM (z:=p0) rfl rfl rfl (by show v5.cell? _=_;unfold World.cell?;rw[a6];exact d7) (by show v5.frozen? _=_;unfold World.frozen?;rw[a6];simp)) rfl) ?_;rintro e8 y6 v6 w F6 u6 e9 g9 a7 d c5;change aB e8 #[u 0,u 1,u 2,u 3,u 4,u 5,u 6,u 7,u 8,u 9,ptr bG,ptr J,u 12,u 13,u 14,R7 (some ⟨N,0,none⟩) m m,R5 R6 t,R8 (some ⟨o.heap.size,0,none⟩),u 18,u 19,u 20,u 21,u 22,u 23,u 24,u 25,u 26,u 27,u 28,u 29,u 30,u 31,u 32,u 33,u 34,u 35,u 36,u 37,u 38,u 39,u 40,u 41,u 42,u 43,u 44,u 45,u 46,u 47,u 48,u 49,u 50,u 51,u 52,u 53,u 54,u 55,u 56,u 57,u 58,u 59,u 60,u 61,u 62,u 63,u 64,u 65,u 66,u 67,R7 (some ⟨g,0,none⟩) m A,R5 R6 m,R5 R6 t,.bool true,R5 R6 t,R8 (some ⟨g,t * 2,none⟩),.agg #[R5 R6 (B t),R3 R4 b1 a'],R7 (some ⟨N,0,none⟩) m m,R5 R6 t,R7 (some ⟨W,0,none⟩) n n,R8 (some ⟨o.heap.size,0,none⟩),R5 R6 (B t),R8 (some ⟨W,B t * 2,none⟩),R8 (some ⟨W,B t * 2 + 1,none⟩),.chan (some (co (B t))),R3 R4 p p',R8 (some ⟨N,t,none⟩),u 85,u 86,u 87] _ at c5;have c6: ∀g,g≠N->v6.heap[g]? =v5.heap[g]? :=λg hb=>by rw[a7,heap_set,if_neg (Ne.symm hb)]
  have c7:v6.heap[N]? =some (.cells (cs.setIfInBounds t (R3 R4 p p')) 26 (0,0)):=by rw[a7,heap_set,if_pos rfl,a6];rfl
  have d8:qK v6 N (t + 1) m Y:=⟨_,c7,by simpa using d3,λf4 hj=>by
   by_cases e:f4=t
   ·subst e;exact ⟨_,by rw[Array.getElem?_setIfInBounds,if_pos rfl,if_pos YP],c3⟩
   ·obtain ⟨u,k1,k2⟩:=d4 f4 YP;exact ⟨u,by rw[Array.getElem?_setIfInBounds,if_neg YP];exact k1,k2⟩⟩
  have b4:Ty v5 v6:=λg c e f hb=>by
   by_cases d9:g=N
   ·subst d9;rw[a6]at hb;cases hb;exact ⟨_,_,c7⟩
   ·exact ⟨c,f,by rw[c6 g d9];exact hb⟩
  have e0:=d6.but (v':=v6) (λb1 u ha h=>by unfold World.cell? at h ⊢;rw[c6 _ ha];exact h) g1 g2 g3 d5;refine aa.aH d λw d=> ?_;refine aa.cd d λw d=> ?_;refine aa.ej (Q:=λx' v'=>x'= #[u 0,u 1,u 2,u 3,u 4,u 5,u 6,u 7,u 8,u 9,ptr bG,ptr J,u 12,u 13,u 14,R7 (some ⟨N,0,none⟩) m m,R5 R6 t,R8 (some ⟨o.heap.size,0,none⟩),u 18,u 19,u 20,u 21,u 22,u 23,u 24,u 25,u 26,u 27,u 28,u 29,u 30,u 31,u 32,u 33,u 34,u 35,u 36,u 37,u 38,u 39,u 40,u 41,u 42,u 43,u 44,u 45,u 46,u 47,u 48,u 49,u 50,u 51,u 52,u 53,u 54,u 55,u 56,u 57,u 58,u 59,u 60,u 61,u 62,u 63,u 64,u 65,u 66,u 67,R7 (some ⟨g,0,none⟩) m A,R5 R6 m,R5 R6 T,.bool true,R5 R6 t,R8 (some ⟨g,t * 2,none⟩),.agg #[R5 R6 (B t),R3 R4 b1 a'],R7 (some ⟨N,0,none⟩) m m,R5 R6 t,R7 (some ⟨W,0,none⟩) n n,R8 (some ⟨o.heap.size,0,none⟩),R5 R6 (B t),R8 (some ⟨W,B t * 2,none⟩),R8 (some ⟨W,B t * 2 + 1,none⟩),.chan (some (co (B t))),R3 R4 p p',R8 (some ⟨N,t,none⟩),R5 R6 T,u 86,u 87]/\v'.heap=v6.heap) bh ⟨_,Try.func19⟩ Zt Zs YU YU d c5 (λtp=> ?_) ?_
  ·clear d hv hO I H hx C r hT ih M b2 V P hW K b8 c2 Z c5 q a2 b7 a3 b9 a4 c1 a5 c4 d2 hg d3 d4 a0 hz c3 c6 c7 d8 b4 e0 a7 a6 d5 d6 O d7;go_wp2
   rfl
  rintro f0 x7 y7 v7 w7 F7 f1 h0 ⟨rfl,a8⟩ d f2;refine aa.dw d λw d=> ?_;rw[<-a1];subst hT;have a9:=((b3.trans e7).trans e9).trans f1;exact ih (t + 1) f0 v7 F7 w _ y7 YP d ((((a5.trans (Ty.low (ar.heap a0))).trans (Ty.low (ar.heap O))).trans b4).trans (Ty.low (ar.heap a8))) (λg z h=>a9 _ _ (hW g z h)) (d8.low (ar.heap a8)) (e0.grow (aA.heap a8)) (λi hi=>a9 _ _ (V i hi)) ⟨rfl,rfl,rfl,rfl,rfl,rfl,rfl⟩ (a9 _ _ hG) f2
end
section
open Go.Conc.Lib
theorem zM(h:w.cell? Q=S (.slice b n m)):(M1 63 (.pointer (S Q))).run Try.prog w= .ok (.slice b n m) w:=Zv
theorem Fg {a:Act}{R:Value->World->Prop}{z:K1}(b:o.op= .makeSlice 24 x z)(g:a.eval x= R5 R6 m)(i:a.eval z= R5 R6 m)(n:m<=1000000)
  (h: ∀c:Array Value,c.size=m->R (R7 (S ⟨w.heap.size,0,none⟩) m m) (w.alloc (.cells c 26))):bD Try.prog o a w R:=by
 obtain ⟨j,k,d,e,l⟩:=M7 fY;have f:=P7 (P:=Try.prog) (w:=w) 24 26 j _ Try.underlying24 k d .i64 .i64 m m YP (Q3 _) YS YS YP;rw[e,N8,Nat.mul_one]at f;refine aL ?_ (h _ (P1 (Value.complex .f64 0 0).cells m));unfold J4;simp only[b,g,i];simp[f]
section
variable {V:Nat->Nat->Value->Prop}{r:ca}{ρ:aU}{v0:World}{F0:aq}{w0:World}{Gn:Nat->C2}{L Lr:Nat->Nat}{bT bG bP Pb kU:Nat}{x:Array Value}
theorem Bt (hV:V=Vy W Z T Gn h X)(hn:n<=1000)(g7:W<=1000000)(i9: ∀t,t<W->Z t<n)(hb:At (E0 C) e v0 F0 bO w0)(q7:m=w0.heap.size)(m3:fT e)(m4: ∀o,F0.rd o->j.bk o=w0.heap[o]?)
  (hT:v0.cell? ⟨bT,0,none⟩=some (.slice b W N))(hl:fI v0 b W Z X)(m5: ∀p,b=some p->p.block<v0.heap.size)
  (hK: ∀g8 H F' w' o j0,Ext e g8->At (E0 (C.add m)) g8 H F' bO w'->aA v0 H->dy H o W (Zy W Z T Gn h X)->VR g8 (R7 (some ⟨o,0,none⟩) W W) j0->cO a (C.add m) F' (G (M.finish (.tuple #[j0,R5 R6 0])) l) w')
  (c:At (E1 V C m) ρ v F j w)(hJ:gy (E1 V C m) e v0 n A T Gn h B L Lr bG n ρ v)(m6:FK F T Lr n n)(hX:PY x bT bG bP A n n)(hR:sH ρ v F J n Pb kU bP)(hP:pk r ρ v Pb n)(hv:aB ρ x y):
  aa Try.prog (E1 V C m) true (mC Try.prog (E1 V C m)) (λ_ _=>True) (Way Try.prog a (C.add m)) 0 r z (.work false [sL n (mj Z W 0) 0] (vC (mj Z W 0) 0)) F (G (ak 19 y [.code xi]) (M::l)) w:=by
 obtain ⟨f4,m7⟩: ∃f:Nat->Nat×Nat×Nat×Nat,∀i,i<n->v.rangeAt Pb (i * 2) [.chan (some (f i).1),.chan (some (f i).2.1)]/\ρ[(f i).1]? =some ((f i).2.2.1,.chan)/\ρ[(f i).2.1]? =some ((f i).2.2.2,.chan)/\r (2 * i)=some (f i).2.2.1/\r (2 * i + 1)=some (f i).2.2.2:=by
  have m8: ∀i,∃p:Nat×Nat×Nat×Nat,i<n->v.rangeAt Pb (i * 2) [.chan (some p.1),.chan (some p.2.1)]/\ρ[p.1]? =some (p.2.2.1,.chan)/\ρ[p.2.1]? =some (p.2.2.2,.chan)/\r (2 * i)=some p.2.2.1/\r (2 * i + 1)=some p.2.2.2:=λi=>by
   by_cases hi:i<n
   ·obtain ⟨e7,a',Y,Y',g⟩:=hP i hi;exact ⟨(e7,a',Y,Y'),λ_=>g⟩
   ·exact ⟨(0,0,0,0),λg=>absurd g hi⟩
  obtain ⟨f,hf⟩:=Classical.skolem.1 m8;exact ⟨f,hf⟩
 obtain ⟨ci,m9⟩: ∃ci:Nat->Nat,ci=λi=>(f4 i).1:=⟨_,rfl⟩;obtain ⟨co,n0⟩: ∃co:Nat->Nat,co=λi=>(f4 i).2.1:=⟨_,rfl⟩;obtain ⟨Xi,n1⟩: ∃Xi:Nat->Nat,Xi=λi=>(f4 i).2.2.1:=⟨_,rfl⟩;obtain ⟨Xo,n2⟩: ∃Xo:Nat->Nat,Xo=λi=>(f4 i).2.2.2:=⟨_,rfl⟩;have f6:lx v Pb n ci co:=λi hi=>by simp_all
 have n3: ∀i,i<n->ρ[ci i]? =some (Xi i,.chan):=λi hi=>by simp_all
 have n4: ∀i,i<n->ρ[co i]? =some (Xo i,.chan):=λi hi=>by simp_all
 have n5: ∀i,i<n->r (2 * i)=some (Xi i):=λi hi=>by simp_all
 have j1: ∀i,i<n->r (2 * i + 1)=some (Xo i):=λi hi=>by simp_all
 clear m9 n0 n1 n2 m7 hP;have j2:xi=xi:=rfl;have eL:pe=pe:=rfl;have eU:NP=NP:=rfl;conv at j2=>rhs;unfold xi;simp only[Try.f19]
 conv at eL=>rhs;unfold pe xi;simp only[Try.f19]
 conv at eU=>rhs;unfold NP xi;simp only[Try.f19]
 rw[j2];refine aa.ah c λw c=> ?_;refine aa.aC c λw c=> ?_;refine aa.go c YR (λ_=>qi (d:=63) rfl rfl rfl rfl) λw c=> ?_;obtain ⟨q,a0⟩: ∃q,q=(#[.tmp 11,.tmp 3]:Array K1).map (J2 ⟨y,[]⟩):=⟨_,rfl⟩;have n6:aB ρ #[ptr bP,ptr bT] q:=by rw[a0];exact rf (hv.ev hX.eX) (hv.ev hX.s3)
 rw[<-a0];have g9:=aB.set (i:=63) hv (VR.qH (r:=ρ) (.func (.func 46) #[] q) trivial);have j3:J2 ⟨y.setIfInBounds 63 (.func (.func 46) #[] q),[]⟩ (.tmp 63)= .func (.func 46) #[] q:=ay (aE (n:=88) (by rw[<-hv.1];exact hX.sz) YQ);have sn: ∀ {X q8:Nat->Prop}{e7:Addr}{u:Value},(∀x,¬X x)->v.cell? e7=some u->(dL ρ X q8 v).cell? e7=some u:=λhx g=>bz g λx _=>hx x;have a1:aA v (dL ρ (λ_=>False) (λ_=>False) v):=⟨by rw[bq];omega,λe7 u g=>sn (λ_ g=>g) g⟩;have a2:=hJ.old.trans a1;refine kY (L:=λ_ _=>True) (Wc:=λ_=>False) (KW:=λ_=>False) c trivial ⟨m6.cl,λ_ g=>g.elim,λ_ g=>g.elim,λ_ g=>g.elim⟩ (λ_ _ _=>⟨λg=>g,λg=>g⟩) (λx hx=>YS) (λ_ _ _ _ _=>trivial) rfl rfl rfl ((g9.ev (ab hX.oy YQ)).at hJ.Gz) j3 (λw4 A' B' n7 j4=> ?_) λw j5=> ?_
 ·exact Bq (E:=E1 V C m) (Xi:=Xi) (ci:=ci) (co:=co) trivial j4 n7 n6 (sn (λ_ g=>g) hR.box) (a2.2 _ _ hT) hn g7 n5 i9 (λt u _ g=>by show V (2 * Z t) t u;rw[hV];exact Jr.2 g) n3 (f6.av a1) (hl.av a2)
 replace c:=j5;have j6:Ty v0 (dL ρ (λ_=>False) (λ_=>False) v):=hJ.ty.trans (Ty.ex _ _ _ _);have j7:PT (dL ρ (λ_=>False) (λ_=>False) v) bP Pb n W b Z X ci co:=⟨a1.2 _ _ hR.box,f6.av a1,hl.av a2⟩;have h0:=a2.2 _ _ hT;have n8:bP<(dL ρ (λ_=>False) (λ_=>False) v).heap.size:=cy (a1.2 _ _ hR.box);have n9:Pb<(dL ρ (λ_=>False) (λ_=>False) v).heap.size:=by rw[bq];obtain ⟨cc,h1,_⟩:=hR.row;exact aG h1
 have j8:=λp hp=>Nat.lt_of_lt_of_le (m5 p hp) a2.1;generalize dL ρ (λ_=>False) (λ_=>False) v=v1 at c j6 j7 h0 n8 n9 j8;generalize fX F (λ_=>False) (λ_=>False)=F1 at c ⊢;have e8:=aB.set (i:=64) g9 (VR.unit (ρ:=ρ));have mv: ∀ {k:Nat}{u:Value},x[k]? =some u->63≠k->64≠k->((x.setIfInBounds 63 .nilFunc).setIfInBounds 64 (.tuple #[]))[k]? =some u:=λg h1 h2=>ab (ab g h1) h2;have a3:=mv hX.s3 YQ YQ;have j9:=mv hX.oy YQ YQ;have k0:=mv hX.eX YQ YQ;have h3:((x.setIfInBounds 63 .nilFunc).setIfInBounds 64 (.tuple #[])).size=88:=by simpa using hX.sz
 generalize (x.setIfInBounds 63 .nilFunc).setIfInBounds 64 (.tuple #[])=x2 at e8 a3 j9 k0 h3;refine aa.aH c λw c=> ?_;show aa _ _ _ _ _ _ _ _ _ _ _ (G (ak 19 ((y.setIfInBounds 63 (.func (.func 46) #[] q)).setIfInBounds 64 (.tuple #[])) _) _) _;generalize (y.setIfInBounds 63 (.func (.func 46) #[] q)).setIfInBounds 64 (.tuple #[])=y2 at e8 ⊢;refine aa.ah c λw c=> ?_;refine aa.aC c λw c=> ?_;refine aa.fP (i:=0) (R:=λu H=>u= .slice b W N/\H.heap=v1.heap) bh ⟨_,Try.func19⟩ Zt rfl rfl Zs YU YU c e8 (λtp=>aL (gS rfl (ay a3) (zM (show (aK v1 tp 0).cell? _=_ from h0))) ⟨rfl,rfl⟩) ?_;rintro q9 y3 v3 w F3 u3 o0 r0 ⟨rfl,k1⟩ c e9;change aB _ (x2.setIfInBounds 65 (.slice b W N)) _ at e9;have f7:=ab (d:=65) (u:= .slice b W N) a3 YQ;have a4:=ab (d:=65) (u:= .slice b W N) j9 YQ;have a5:=ab (d:=65) (u:= .slice b W N) k0 YQ;have K:=aE (u:= .slice b W N) h3 (show 65<88 by decide);have h5:(x2.setIfInBounds 65 (.slice b W N)).size=88:=by simpa using h3
 generalize x2.setIfInBounds 65 (.slice b W N)=x3 at e9 h5 f7 a4 a5 K;have o1:=ar.heap k1;refine aa.fP (i:=1) (R:=λu H=>u= R5 R6 W/\H.heap=v3.heap) bh ⟨_,Try.func19⟩ Zt rfl rfl Zs YU YU c e9 (λtp=>aL (oq rfl (ay K) rfl) ⟨rfl,rfl⟩) ?_;rintro r1 y4 s w F4 u4 o2 r2 ⟨rfl,k2⟩ c f0;change aB _ (x3.setIfInBounds 66 (R5 R6 W)) _ at f0;have f8:=ab (d:=66) (u:= R5 R6 W) f7 YQ;have a6:=ab (d:=66) (u:= R5 R6 W) a4 YQ;have a7:=ab (d:=66) (u:= R5 R6 W) a5 YQ;have a8:=ab (d:=66) (u:= R5 R6 W) K YQ;have D:=aE (u:= R5 R6 W) h5 (show 66<88 by decide);have h6:(x3.setIfInBounds 66 (R5 R6 W)).size=88:=by simpa using h5
 generalize x3.setIfInBounds 66 (R5 R6 W)=x4 at f0 h6 f8 a6 a7 a8 D;have k3:=o1.trans (ar.heap k2);refine aa.fP (i:=2) (R:=λu H=>u= R7 (some ⟨s.heap.size,0,none⟩) W W/\ ∃cc:Array Value,cc.size=W/\H.heap=s.heap.push (.cells cc 26)) bh ⟨_,Try.func19⟩ Zt rfl rfl Zs YU YU c f0 (λtp=>Fg rfl (ay D) (ay D) g7 λcc h7=>⟨rfl,cc,h7,rfl⟩) ?_;rintro r3 y5 v5 w F5 u5 o3 r4 ⟨rfl,Q⟩ c f1;change aB _ (x4.setIfInBounds 67 (R7 (some ⟨s.heap.size,0,none⟩) W W)) _ at f1;have f9:=ab (d:=67) (u:= R7 (some ⟨s.heap.size,0,none⟩) W W) f8 YQ;have a9:=ab (d:=67) (u:= R7 (some ⟨s.heap.size,0,none⟩) W W) a6 YQ;have b0:=ab (d:=67) (u:= R7 (some ⟨s.heap.size,0,none⟩) W W) a7 YQ;have b1:=ab (d:=67) (u:= R7 (some ⟨s.heap.size,0,none⟩) W W) a8 YQ;have b2:=ab (d:=67) (u:= R7 (some ⟨s.heap.size,0,none⟩) W W) D YQ;have O:=aE (u:= R7 (some ⟨s.heap.size,0,none⟩) W W) h6 (show 67<88 by decide);have h9:(x4.setIfInBounds 67 (R7 (some ⟨s.heap.size,0,none⟩) W W)).size=88:=by simpa using h6
 generalize x4.setIfInBounds 67 (R7 (some ⟨s.heap.size,0,none⟩) W W)=x5 at f1 h9 f9 a9 b0 b1 b2 O;obtain ⟨cc,h7,Q⟩:=Q;have o4:=k3.trans (ar.push Q);have k4:qK v5 s.heap.size 0 W (Zy W Z T Gn h X):=⟨cc,by rw[Q];simp,h7,λs4 hj=>absurd hj (Nat.not_lt_zero _)⟩;refine aa.fP (i:=3) (R:=λu H=>u= R7 (some ⟨s.heap.size,0,none⟩) W W/\H.heap=v5.heap) bh ⟨_,Try.func19⟩ Zt rfl rfl Zs YU YU c f1 (λtp=>jj rfl (ay O) ⟨rfl,rfl⟩) ?_;rintro r5 y6 v6 w F6 u6 o5 r6 ⟨rfl,g0⟩ c f2;change aB _ (x5.setIfInBounds 15 (R7 (some ⟨s.heap.size,0,none⟩) W W)) _ at f2;have b3:=ab (d:=15) (u:= R7 (some ⟨s.heap.size,0,none⟩) W W) f9 YQ;have b4:=ab (d:=15) (u:= R7 (some ⟨s.heap.size,0,none⟩) W W) a9 YQ;have b5:=ab (d:=15) (u:= R7 (some ⟨s.heap.size,0,none⟩) W W) b0 YQ;have b6:=ab (d:=15) (u:= R7 (some ⟨s.heap.size,0,none⟩) W W) b1 YQ;have b7:=ab (d:=15) (u:= R7 (some ⟨s.heap.size,0,none⟩) W W) b2 YQ;have b8:=ab (d:=15) (u:= R7 (some ⟨s.heap.size,0,none⟩) W W) O YQ;have b9:=aE (u:= R7 (some ⟨s.heap.size,0,none⟩) W W) h9 (show 15<88 by decide);have i0:(x5.setIfInBounds 15 (R7 (some ⟨s.heap.size,0,none⟩) W W)).size=88:=by simpa using h9
 generalize x5.setIfInBounds 15 (R7 (some ⟨s.heap.size,0,none⟩) W W)=x6 at f2 i0 b3 b4 b5 b6 b7 b8 b9;have k5:=o4.trans (ar.heap g0);refine aa.aH c λw c=> ?_;refine aa.ah c λw c=> ?_;refine aa.ah c λw c=> ?_;refine aa.aC c λw c=> ?_;refine aa.fP (i:=0) (R:=λu H=>u= .slice b W N/\H.heap=v6.heap) bh ⟨_,Try.func19⟩ Zt rfl rfl Zs YU YU c f2 (λtp=>aL (gS rfl (ay b3) (zM (show (aK v6 tp 0).cell? _=_ from k5.cell h0))) ⟨rfl,rfl⟩) ?_;rintro r7 y7 v7 w F7 u7 o6 r8 ⟨rfl,g1⟩ c f3;change aB _ (x6.setIfInBounds 68 (.slice b W N)) _ at f3;have g2:=ab (d:=68) (u:= .slice b W N) b3 YQ;have c1:=ab (d:=68) (u:= .slice b W N) b4 YQ;have c2:=ab (d:=68) (u:= .slice b W N) b5 YQ;have c3:=ab (d:=68) (u:= .slice b W N) b6 YQ;have c4:=ab (d:=68) (u:= .slice b W N) b7 YQ;have c5:=ab (d:=68) (u:= .slice b W N) b8 YQ;have c6:=ab (d:=68) (u:= .slice b W N) b9 YQ;have P:=aE (u:= .slice b W N) i0 (show 68<88 by decide);have i1:(x6.setIfInBounds 68 (.slice b W N)).size=88:=by simpa using i0
 generalize x6.setIfInBounds 68 (.slice b W N)=x7 at f3 i1 g2 c1 c2 c3 c4 c5 c6 P;have o7:=k5.trans (ar.heap g1);refine aa.fP (i:=1) (R:=λu H=>u= R5 R6 W/\H.heap=v7.heap) bh ⟨_,Try.func19⟩ Zt rfl rfl Zs YU YU c f3 (λtp=>aL (oq rfl (ay P) rfl) ⟨rfl,rfl⟩) ?_;rintro o8 y8 v8 w F8 u8 o9 r9 ⟨rfl,g3⟩ c I;change aB _ (x7.setIfInBounds 69 (R5 R6 W)) _ at I;have g4:=ab (d:=69) (u:= R5 R6 W) g2 YQ;have c7:=ab (d:=69) (u:= R5 R6 W) c1 YQ;have c9:=ab (d:=69) (u:= R5 R6 W) c2 YQ;have d0:=ab (d:=69) (u:= R5 R6 W) c3 YQ;have d1:=ab (d:=69) (u:= R5 R6 W) c4 YQ;have d2:=ab (d:=69) (u:= R5 R6 W) c5 YQ;have d3:=ab (d:=69) (u:= R5 R6 W) c6 YQ;have d4:=ab (d:=69) (u:= R5 R6 W) P YQ;have d5:=aE (u:= R5 R6 W) i1 (show 69<88 by decide);have i2:(x7.setIfInBounds 69 (R5 R6 W)).size=88:=by simpa using i1
 generalize x7.setIfInBounds 69 (R5 R6 W)=x8 at I i2 g4 c7 c9 d0 d1 d2 d3 d4 d5;have p0:=o7.trans (ar.heap g3);refine aa.fP (i:=2) (R:=λu H=>u= R5 R6 (0:Nat)/\H.heap=v8.heap) bh ⟨_,Try.func19⟩ Zt rfl rfl Zs YU YU c I (λtp=>aJ rfl rfl ⟨rfl,rfl⟩) ?_;rintro k6 y9 v9 w F9 u9 p1 s0 ⟨rfl,g5⟩ c f5;change aB _ (x8.setIfInBounds 70 (R5 R6 (0:Nat))) _ at f5;have k7:=ab (d:=70) (u:= R5 R6 (0:Nat)) g4 YQ;have d6:=ab (d:=70) (u:= R5 R6 (0:Nat)) c7 YQ;have d7:=ab (d:=70) (u:= R5 R6 (0:Nat)) c9 YQ;have i3:=ab (d:=70) (u:= R5 R6 (0:Nat)) d0 YQ;have i4:=ab (d:=70) (u:= R5 R6 (0:Nat)) d1 YQ;have i5:=ab (d:=70) (u:= R5 R6 (0:Nat)) d2 YQ;have d8:=ab (d:=70) (u:= R5 R6 (0:Nat)) d3 YQ;have d9:=ab (d:=70) (u:= R5 R6 (0:Nat)) d4 YQ;have e0:=ab (d:=70) (u:= R5 R6 (0:Nat)) d5 YQ;have e1:=aE (u:= R5 R6 (0:Nat)) i2 (show 70<88 by decide);have k8:(x8.setIfInBounds 70 (R5 R6 (0:Nat))).size=88:=by simpa using i2
 generalize x8.setIfInBounds 70 (R5 R6 (0:Nat))=x9 at f5 k8 k7 d6 d7 i3 i4 i5 d8 d9 e0 e1;have l0:=p0.trans (ar.heap g5);have l1:Qt x9 bG bP s.heap.size W N 0 b:=⟨k8,d6,d7,d8,d9,e0,e1⟩;have e2:Wx ρ k6:=λo j0 g=>p1 _ _ (o9 _ _ (o6 _ _ (o5 _ _ (o3 _ _ (o2 _ _ (o0 _ _ g))))));have l2:=((((k4.low (ar.heap g0)).low (ar.heap g1)).low (ar.heap g3)).low (ar.heap g5));refine aa.aH c λw c=> ?_;refine aa.aV c λw c=> ?_;refine aa.dO c λw c=> ?_;rw[<-eL,<-eU];have s1:=k3.1;refine Bs (E:=E1 V C m) (iS:=e) (vb:=v0) (bG:=bG) (Xo:=Xo) (co:=co) (ci:=ci) (X:=X) g7 (λt u g=>by change V (2 * Z t + 1) t u at g;rw[hV]at g;exact Kf g) j1 i9 YP YP (λo hb=>by have:=j8 _ hb;grind) ?_ W 0 k6 v9 F9 w x9 y9 YP c (j6.trans (Ty.low l0)) (λo j0 g=>e2 _ _ (hJ.wx o j0 g)) l2 (j7.grow l0.av) (λi hi=>e2 _ _ (n4 i hi)) l1 (e2 _ _ hJ.Gz) f5;clear f5 I f3 f2 f1 f0 e9 e8 g9 l1 c l2 k4;intro o8 v8 F8 w x8 y8 c l3 p3 p4 i6 p5 I;rw[eU];refine aa.ah c λw c=> ?_;refine aa.aC c λw c=> ?_;have h8:J2 ⟨y8,[]⟩ (.tmp 10)= R8 (some ⟨m,0,none⟩):=(I.ev i6.oy).at p5;have l4:(#[Operand.tmp 10]:Array K1).map (J2 ⟨y8,[]⟩)= #[R8 (some ⟨m,0,none⟩)]:=by simp only[O1,P6,Q1];rw[h8]
 refine jK (E:=E1 V C m) trivial rfl rfl rfl l4 λg' w9 k9 s2 i7=> ?_;replace c:=c.rely k9;have p6: ∀o,C o\/o=m->o<w9.heap.size:=λo hb=>(c.fg.out o (.inl hb)).1;obtain ⟨zz,l5,p7⟩:=(I.ev i6.fR).iO;obtain ⟨l6,l7⟩:=p4.IP;obtain ⟨p8,l8⟩:=c.row p7 l7 l6;have g6: ∀x,F0.rd x->w9.heap[x]? =w0.heap[x]? :=λx hx=>by have h1:=hb.fg.dZ x hx;obtain ⟨ob,l9⟩: ∃ob,w0.heap[x]? =some ob:=⟨_,Array.getElem?_eq_getElem h1⟩;rw[l9];exact (c.held x ob ((m4 x hx).trans l9)).2.2
 have m0:=At.restore (S':=C.add m) hb c p3 l3 (λo x g=>g6 x (hb.fp.num o x g)) (λo x h1 h2=>g6 x (hb.fp.dc o x h1 h2)) (λo hs=>⟨p6 o hs,λhr=>hs.elim (λg=>(hb.fg.out o (.inl g)).2.1 hr) λg=>by have:=hb.fg.dZ o hr;omega⟩) rfl c.fg.live.2;obtain ⟨p9,ve,be,q0,e3,q1,q2,_,_,i8⟩:=m0.take p8 m3 λg=>⟨c.fg.dZ _ (l8 g).1,(l8 g).2⟩;refine Way.solo (aq.dG _) e3.fg.ok ?_;refine i7 _ _ _ _ _ _ _ _ _ _ _ YR e3.fg.live λs3 q4=> ?_;replace c:=e3.rely q4;have m1:y8.size=88:=by rw[<-I.1];exact i6.sz
 have m2:J2 ⟨y8.setIfInBounds 86 (.tuple #[]),[]⟩ (.tmp 15)= R7 (some ⟨zz,0,none⟩) W W:=by rw[<-l5];show (y8.setIfInBounds 86 _).getD 15 U=y8.getD 15 U;simp[Array.getD_eq_getD_getElem?]
 change aa _ _ _ _ _ _ _ _ _ _ _ (G (ak 19 (y8.setIfInBounds 86 (.tuple #[])) _) _) _;have e6:(y8.setIfInBounds 86 (.tuple #[])).size=88:=by simpa using m1
 generalize y8.setIfInBounds 86 (.tuple #[])=y9 at m2 e6 ⊢;refine aa.aH c λw c=> ?_;refine aa.ah c λw c=> ?_;refine aa.aC c λw c=> ?_;refine aa.go c YR (λ_=>kH (d:=87) rfl rfl rfl (.inl rfl)) λw c=> ?_;refine aa.go c YR (λ_=>kH (d:=4) rfl rfl rfl (.inr rfl)) λw c=> ?_;refine aa.go c YR (λ_=>kH (d:=5) rfl rfl rfl (.inr rfl)) λw c=> ?_;refine aa.aH c λw c=> ?_;refine aa.pP c λw c=> ?_;refine aa.go c YR (λ_=>mZ Try.func19 rfl) λw c=> ?_;have h4: ∀ (yy:Array Value)(e7 o d:Value),yy.size=88->((((yy.setIfInBounds 87 e7).setIfInBounds 4 o).setIfInBounds 5 d).getD 4 U=o/\(((yy.setIfInBounds 87 e7).setIfInBounds 4 o).setIfInBounds 5 d).getD 5 U=d):=λyy e7 o d g=>by
  constructor
  ·rw[Array.getD_eq_getD_getElem?,ab (aE (n:=88) (by simpa using g) YQ) YQ];rfl
  ·rw[Array.getD_eq_getD_getElem?,aE (n:=88) (by simpa using g) YQ];rfl
 obtain ⟨e4,e5⟩:=h4 y9 (J2 ⟨y9,[]⟩ (.tmp 15)) (J2 ⟨y9.setIfInBounds 87 (J2 ⟨y9,[]⟩ (.tmp 15)),[]⟩ (.tmp 87)) (R5 R6 0) e6;have q5:J2 ⟨y9.setIfInBounds 87 (J2 ⟨y9,[]⟩ (.tmp 15)),[]⟩ (.tmp 87)= R7 (some ⟨zz,0,none⟩) W W:=by rw[m2];exact ay (aE e6 YQ)
 have:=hK p9 ve _ w be (R7 (some ⟨zz,0,none⟩) W W) q0 c q1 i8 (.slice W W ⟨q2,rfl,rfl⟩);have q6: ∀p p':Value,p= R7 (some ⟨zz,0,none⟩) W W->p'= R5 R6 0->cO a (C.add m) (.all w9.heap.size (C.add m)) (G (M.finish (.tuple #[p,p'])) l) w:=λ_ _ h1 h2=>by rw[h1,h2];exact this
 exact q6 _ _ (e4.trans q5) e5
end
end
section
open Go.Conc.Lib
open Go.ConcR (KK WgAt stA smA)
noncomputable def Nd:K9:=match Try.f19.body with | some c=>c | _=> .skip
theorem Pr (a b:J8):(#[a,b] ++ J5 86 U:Array J8)= #[a,b,U,U,U,U,U,U,U,U,U,U,U,U,U,U,U,U,U,U,U,U,U,U,U,U,U,U,U,U,U,U,U,U,U,U,U,U,U,U,U,U,U,U,U,U,U,U,U,U,U,U,U,U,U,U,U,U,U,U,U,U,U,U,U,U,U,U,U,U,U,U,U,U,U,U,U,U,U,U,U,U,U,U,U,U,U,U]:=by simp
theorem Ee:(Try.prog.info? 114).bind (·.zero)=S (.slice none 0 0):=Zs
theorem Bz:(Try.prog.info? 116).map (λi=>(i.zero,i.size,i.bytes))=S (S (.agg #[.chan none,.chan none]),2,16):=Zs
theorem Cw {y:K1}(a:o.op= .store 114 x y)(c:d x= .pointer (S Q))(e:d y= .slice b n m)(f:w.cell? Q=S u)(g:w.frozen? Q=false):(J4 d o).run Try.prog w= .ok .skip (w.setCell Q (.slice b n m)):=by unfold J4;simp only[a,c,e];go_simp
theorem Fh {a:Act}{z:K1}(b:o.op= .makeSlice 114 x z)(g:a.eval x= R5 R6 m)(i:a.eval z= R5 R6 m)(n:m<=1000)
  (h: ∀c:Array Value,c.size=m * 2->t (R7 (S ⟨w.heap.size,0,none⟩) m m) (w.alloc (.cells c 116))):bD Try.prog o a w t:=by
 obtain ⟨j,k,d,e,l⟩:=M7 Bz;have f:=P7 (P:=Try.prog) (w:=w) 114 116 j _ Try.underlying114 k d .i64 .i64 m m YP (Q3 _) YS YS YP;rw[e,N8]at f;refine aL ?_ (h _ (P1 (Value.agg #[.chan none,.chan none]).cells (m * 2)));unfold J4;simp only[b,g,i];simp[f]
section
variable {Fin:aq->Goroutine->World->Nat->Prop}{ad:Option Addr}{Gn:Nat->C2}{tf:Nat->Nat}{c:Frame}
theorem DF (t6:fT e)(hF:mq v m n B T H Z h Gn)(hl:fI v ad J tf X)(t7: ∀p,ad=some p->p.block<v.heap.size)(m0: ∀t,t<J->tf t<n)(t8:J<=1000000)(D4:0<n)(hn:n<=1000)
  (hK: ∀S' i0 D F' w' b z,S'.lq C->Ext e i0->At (E0 S') i0 D F' bO w'->aA v D->dy D b J (Zy J tf Z Gn h X)->VR i0 (R7 (some ⟨b,0,none⟩) J J) z->cO Fin S' F' (G (c.finish (.tuple #[z,R5 R6 0])) l) w')
  (g:At (E0 C) e v F bO w)(hv:aB e #[R7 (some ⟨m,0,none⟩) n A,.slice ad J W] y):
  cO Fin C F (G (ak 19 (y ++ Array.replicate 86 U) [.code Nd]) (c::l)) w:=by
 have o9:Nd=Nd:=rfl;have eL:my=my:=rfl;have eT:xi=xi:=rfl;conv at o9=>rhs;unfold Nd;simp only[Try.f19]
 conv at eL=>rhs;unfold my;simp only[Try.f19]
 conv at eT=>rhs;unfold xi;simp only[Try.f19]
 rw[o9];have a8:=hv.ei 86;rw[Pr]at a8;refine aa.ah g λw g=> ?_;refine aa.ej (Q:=λx' D=>x'= #[R7 (some ⟨m,0,none⟩) n A,.slice ad J W,U,R8 (some ⟨v.heap.size,0,none⟩),.slice none 0 0,R5 R6 0,U,U,U,U,U,U,U,U,U,U,U,U,U,U,U,U,U,U,U,U,U,U,U,U,U,U,U,U,U,U,U,U,U,U,U,U,U,U,U,U,U,U,U,U,U,U,U,U,U,U,U,U,U,U,U,U,U,U,U,U,U,U,U,U,U,U,U,U,U,U,U,U,U,U,U,U,U,U,U,U,U,U]/\D.heap=v.heap.push (.cells #[.slice ad J W] 63)) bh ⟨_,Try.func19⟩ Zt Zs YU YU g a8 (λtp=> ?_) ?_
 ·clear hl hF hK hv a8;go_wp2
  exact ⟨rfl,rfl⟩
 rintro D5 x1 y1 v1 w1 F1 t9 D6 ⟨rfl,M⟩ g d9;have K:=ar.push M;have b6:=Bx.new M;have e0:v1.heap.size=v.heap.size + 1:=by rw[M];simp
 refine aa.ah g λw g=> ?_;refine aa.ej (Q:=λx' D=> ∃q p0 L,x'= #[R7 (some ⟨m,0,none⟩) n A,.slice ad J W,U,R8 (some ⟨v.heap.size,0,none⟩),.slice none 0 0,R5 R6 0,R7 (some ⟨q,0,none⟩) n n,R5 R6 0,U,U,U,U,U,U,U,U,U,U,.tuple #[R7 (some ⟨q,0,none⟩) n n,R5 R6 0],R7 (some ⟨m,0,none⟩) n A,.tuple #[R7 (some ⟨q,0,none⟩) n n,R5 R6 0],R7 (some ⟨q,0,none⟩) n n,R5 R6 0,U,U,U,U,U,U,U,U,U,U,U,U,U,U,U,U,U,U,U,U,U,U,U,U,U,U,U,U,U,U,U,U,U,U,U,U,U,U,U,U,U,U,U,U,U,U,U,U,U,U,U,U,U,U,U,U,U,U,U,U,U,U,U,U,U]/\ ∃z z':World,z.heap=v1.heap/\z'.heap=D.heap/\AR z z' q n Z h Gn p0 L) bh ⟨_,Try.func19⟩ Zt Zs YU YU g d9 (λtp=> ?_) ?_
 ·have Hr:=au (qm (c:=A) (w:=aK v1 tp 0) (hF.av (K.av.trans (aA.heap rfl))) hn);clear hl hF hK hv a8 d9 M K b6 e0;go_wp2_with (go_at_call 33;refine (ae Hr).mono ?_;rintro C7 w6 ⟨q,p0,L,rfl,u0⟩)
  exact ⟨p0,L,aK v1 tp 0,rfl,_,rfl,u0⟩
 rintro D7 x2 y2 v2 w2 F2 u1 D8 ⟨q,p0,L,rfl,z1,z2,i1,e1,a5⟩ g i2;have Y:ar v1 v2:=by have o:=ar.ba a5.low (Nat.le_refl _);exact ⟨by rw[<-i1,<-e1];exact o.1,λb hb=>by rw[<-i1,<-e1];exact o.2 b (by simp_all)⟩
 have i9:v1.heap.size<=q/\q<v2.heap.size:=by rw[<-i1,<-e1];exact a5.lt
 have a9: ∀i,i<n->v2.cell? ⟨q,i,none⟩=some (R8 (some ⟨p0 i,0,none⟩)):=λi hi=>by have:=a5.cell i hi;unfold World.cell? at this ⊢;simp_all
 have a0:=λi hi=>(a5.dp i hi).heap e1.symm;have e2:=a5.new;have e3:=a5.lN;have b0:=a5.mH;clear a5 i1 e1;have b7:=K.trans Y;have m1:=hl.av b7.av;have e4:=b6.keep Y;refine aa.ah g λw g=> ?_;refine aa.ej (Q:=λx' D=>x'= #[R7 (some ⟨m,0,none⟩) n A,.slice ad J W,U,R8 (some ⟨v.heap.size,0,none⟩),.slice none 0 0,R5 R6 0,R7 (some ⟨q,0,none⟩) n n,R5 R6 0,U,U,U,U,U,U,U,U,U,U,.tuple #[R7 (some ⟨q,0,none⟩) n n,R5 R6 0],R7 (some ⟨m,0,none⟩) n A,.tuple #[R7 (some ⟨q,0,none⟩) n n,R5 R6 0],R7 (some ⟨q,0,none⟩) n n,R5 R6 0,R5 R6 0,.bool false,U,U,U,U,U,U,U,U,U,U,U,U,U,U,U,U,U,U,U,U,U,U,U,U,U,U,U,U,U,U,U,U,U,U,U,U,U,U,U,U,U,U,U,U,U,U,U,U,U,U,U,U,U,U,U,U,U,U,U,U,U,U,U]/\D.heap=v2.heap) bh ⟨_,Try.func19⟩ Zt Zs YU YU g i2 (λtp=> ?_) ?_
 ·clear hl hF hK hv a8 d9 M K b6 e0 i2 Y i9 a9 a0 e2 e3 b0 b7 m1 e4;go_wp2
  rfl
 rintro D9 xa ya va wa Fa u2 E2 ⟨rfl,j0⟩ g p1;have a1:=ar.heap j0;have p3:=m1.av a1.av;have b8:=e4.keep a1;refine aa.ah g λw g=> ?_;refine aa.ej (Q:=λx' D=>x'.size=88/\x'[3]? =some (ptr v.heap.size)/\x'[6]? =some (R7 (some ⟨q,0,none⟩) n n)/\ar va D) bh ⟨_,Try.func19⟩ Zt Zs YU YU g p1 (λtp=> ?_) ?_
 ·have k0:(aK va tp 0).cell? ⟨v.heap.size,0,none⟩=some (.slice ad J W):=b8.cell;have Hl:=au (And.intro p3 b8);clear hl hF hK hv a8 d9 M K b6 e0 i2 Y i9 a9 a0 e2 e3 b0 b7 m1 e4 p1 p3 b8 j0 a1;go_wp2_with fail
  go_loopw [28] (λi wr=> ∃t:Nat,t<=J/\i= R5 R6 t/\ar va wr) (λi _=>J - (intOf i).toNat)
  case atStart=>exact ⟨0,Nat.zero_le _,rfl,ar.heap rfl⟩
  case round=>
   obtain ⟨t,ht,rfl,a6⟩:=hrel;by_cases p4:t<J
   ·have p5:(t:Int)<(J:Int):=by omega
    obtain ⟨b,a,a',rfl,O,_⟩:=(ae Hl).1 t p4;have r0:wr.cell? ⟨b,t * 2,none⟩=some (R5 R6 (tf t)):=a6.cell (O 0 _ rfl);have r1:=a6.cell (O 1 _ rfl);have E3: ¬ (((tf t:Nat):Int)<0):=YP;have E4: ¬ ((n:Int)<=((tf t:Nat):Int)):=by have:=m0 t p4;omega
    have Hw:=au (And.intro a6 O);clear a6 O;have E5:=aW;go_wp2
    go_roundw
    case rel=>obtain ⟨a6,_⟩:=ae Hw;exact ⟨t + 1,YP,by go_num,a6.trans (ar.alloc _ _)⟩
    case measure=>simp[intOf];omega
   ·have p5: ¬ ((t:Int)<(J:Int)):=by omega
    have Hw:=au a6;clear a6;go_wp2
    exact ⟨rfl,ae Hw⟩
 rintro i3 x3 y3 v3 w3 F3 u3 E6 ⟨j1,s3,s6,b9⟩ g m2;have I:=a1.trans b9;have j2:=((t9.trans u1).trans u2).trans u3;have p6:=t6.ext j2;have u4:=b8.keep b9;have j3:=b7.trans I;obtain ⟨A',_,w0⟩:=(m2.ev s6).iO;refine aa.ah g λw g=> ?_;refine aa.aC g λw g=> ?_;refine aa.Da (b:=base 19) (a:=⟨y3,[]⟩) (i:=0) (rest:= []) (.cells #[.int .u64 0,.int .u32 0] 101) rfl rfl (by simp[base]) (λ_=>Zv) (λ_=>YV) λw4 k4=> ?_;replace g:=g.rely k4;obtain ⟨Lr,v0,F0,v4,hb,w7,e5,w8,a2,E7,C8,p7,w9,hJ,a7,p8⟩:=g.zy (V:=Vy J tf Z Gn h X) (N:=v.heap.size + 1) w0 YP (by have:=I.1;omega) (λi hi=>I.cell (a9 i hi)) (λi hi=>(a0 i hi).mv (λj u o=>I.cell o) (λ_=>I.2 _ (a0 i hi).lt.2.1) I.1) e2 e3 b0;have p9:=(a7.fg.out w4.heap.size (.inr ⟨trivial,rfl⟩)).2;have x0:WgAt 101 w4.heap.size (w4.alloc (.cells #[.int .u64 0,.int .u32 0] 101)) 0 0:=by show (w4.heap.push _)[w4.heap.size]? =_;simp;rfl
 have y0: ∀f∈mj tf J 0,f<n:=λf hf=>by obtain ⟨s,_,h2,h3⟩:=Am hf;rw[h3];exact m0 s YP
 refine Way.phase (V:=Vy J tf Z Gn h X) (Wg:=w4.heap.size) (pl:=vT n (mj tf J 0) n 0) (s:=vC (mj tf J 0) 0) x0 (Nat.le_refl _) p8 a7.fg.ok p9 (by rw[zW];omega) (λk hk=>EN n (mj tf J 0) k hk y0) ?_;change aa Try.prog (E1 (Vy J tf Z Gn h X) C w4.heap.size) true (mC Try.prog (E1 (Vy J tf Z Gn h X) C w4.heap.size)) (λ_ _=>True) (Way Try.prog Fin (C.add w4.heap.size)) 0 (λ_=>none) [] (.work false (vT n (mj tf J 0) n 0) (vC (mj tf J 0) 0)) _ (G (ak 19 (y3.setIfInBounds 10 (R8 (some ⟨w4.heap.size,0,none⟩))) (.inRegion _ []::_)) (c::l)) _;have m3:aA v v0:=⟨Nat.le_trans j3.1 w8,λa u o=>e5 a u (by have:=cy o;omega) (j3.cell o)⟩;have q0:=e5 ⟨v.heap.size,0,none⟩ _ YR u4.cell;have z3:=g.bQ.size;have e6:=(aB.mono (gB i3 w4.heap.size) m2).put (d:=some 10) (show VR (i3.push (w4.heap.size,.cells)) (ptr v3.heap.size) (R8 (some ⟨w4.heap.size,0,none⟩))from .ptr ⟨by show (i3.push _)[v3.heap.size]? =_;rw[z3];simp,rfl,rfl⟩);change aB _ (x3.setIfInBounds 10 (ptr v3.heap.size)) (y3.setIfInBounds 10 (R8 (some ⟨w4.heap.size,0,none⟩)))at e6;have m4:(x3.setIfInBounds 10 (ptr v3.heap.size)).size=88:=by simpa using j1
 have j4:=ab (d:=10) (u:=ptr v3.heap.size) s3 YQ;have e7:=ab (d:=10) (u:=ptr v3.heap.size) s6 YQ;have e8:=aE (u:=ptr v3.heap.size) j1 (show 10<88 by decide);generalize x3.setIfInBounds 10 (ptr v3.heap.size)=x4 at e6 m4 j4 e7 e8;generalize y3.setIfInBounds 10 (R8 (some ⟨w4.heap.size,0,none⟩))=y4 at e6 ⊢;generalize C9:i3.push (w4.heap.size,BK.cells)=E8 at e6 hJ a7;have q1:v4.heap.size<=v4.heap.size:=Nat.le_refl _;generalize w4.alloc (.cells #[.int .u64 0,.int .u32 0] 101)=w5 at a7 ⊢;clear g m2 i2 d9 a8;have q2:=w9;have z4:=hJ;refine aa.aH a7 λw g=> ?_;refine aa.ah g λw g=> ?_;refine aa.aC g λw g=> ?_;refine aa.fP (i:=0) (R:=λu D=>u= R7 (some ⟨q,0,none⟩) n n/\D.heap=v4.heap) bh ⟨_,Try.func19⟩ Zt rfl rfl Zs YU YU g e6 (λtp=>aJ rfl (ay e7) ⟨rfl,rfl⟩) ?_;rintro E9 y5 v5 w F5 u5 z5 z6 ⟨rfl,q4⟩ g m5;change aB _ (x4.setIfInBounds 43 (R7 (some ⟨q,0,none⟩) n n)) _ at m5;have j5:=ab (d:=43) (u:= R7 (some ⟨q,0,none⟩) n n) j4 YQ;have j6:=ab (d:=43) (u:= R7 (some ⟨q,0,none⟩) n n) e7 YQ;have e9:=ab (d:=43) (u:= R7 (some ⟨q,0,none⟩) n n) e8 YQ;have b1:=aE (u:= R7 (some ⟨q,0,none⟩) n n) m4 (show 43<88 by decide);have m6:(x4.setIfInBounds 43 (R7 (some ⟨q,0,none⟩) n n)).size=88:=by simpa using m4
 generalize x4.setIfInBounds 43 (R7 (some ⟨q,0,none⟩) n n)=x5 at m5 m6 j5 j6 e9 b1;have q5:=ar.heap q4;have z7:=z4.low a2 z5.w (dV.of q5 q1);have q6:=Nat.le_trans q1 q5.1;have q7:=q2.le z6;refine aa.fP (i:=1) (R:=λu D=>u= R5 R6 n/\D.heap=v5.heap) bh ⟨_,Try.func19⟩ Zt rfl rfl Zs YU YU g m5 (λtp=>aL (oq rfl (ay b1) rfl) ⟨rfl,rfl⟩) ?_;rintro F4 y6 v6 w F6 u6 z8 z9 ⟨rfl,q8⟩ g m7;change aB _ (x5.setIfInBounds 44 (R5 R6 n)) _ at m7;have j7:=ab (d:=44) (u:= R5 R6 n) j5 YQ;have j8:=ab (d:=44) (u:= R5 R6 n) j6 YQ;have f0:=ab (d:=44) (u:= R5 R6 n) e9 YQ;have f1:=ab (d:=44) (u:= R5 R6 n) b1 YQ;have a3:=aE (u:= R5 R6 n) m6 (show 44<88 by decide);have m8:(x5.setIfInBounds 44 (R5 R6 n)).size=88:=by simpa using m6
 generalize x5.setIfInBounds 44 (R5 R6 n)=x6 at m7 m8 j7 j8 f0 f1 a3;have q9:=ar.heap q8;have A0:=z7.low a2 z8.w (dV.of q9 q6);have m9:=Nat.le_trans q6 q9.1;have r2:=q7.le z9;refine aa.fP (i:=2) (R:=λu D=>u= R7 (some ⟨v6.heap.size,0,none⟩) n n/\ ∃cc:Array Value,cc.size=n * 2/\D.heap=v6.heap.push (.cells cc 116)) bh ⟨_,Try.func19⟩ Zt rfl rfl Zs YU YU g m7 (λtp=>Fh rfl (ay a3) (ay a3) hn λcc n0=>⟨rfl,cc,n0,rfl⟩) ?_;rintro G0 y7 P w F7 u7 A1 A2 ⟨rfl,cc,n0,j9⟩ g i4;change aB _ (x6.setIfInBounds 45 (R7 (some ⟨v6.heap.size,0,none⟩) n n)) _ at i4;have k1:=ab (d:=45) (u:= R7 (some ⟨v6.heap.size,0,none⟩) n n) j7 YQ;have k2:=ab (d:=45) (u:= R7 (some ⟨v6.heap.size,0,none⟩) n n) j8 YQ;have f2:=ab (d:=45) (u:= R7 (some ⟨v6.heap.size,0,none⟩) n n) f0 YQ;have f3:=ab (d:=45) (u:= R7 (some ⟨v6.heap.size,0,none⟩) n n) f1 YQ;have f4:=ab (d:=45) (u:= R7 (some ⟨v6.heap.size,0,none⟩) n n) a3 YQ;have b2:=aE (u:= R7 (some ⟨v6.heap.size,0,none⟩) n n) m8 (show 45<88 by decide);have n1:(x6.setIfInBounds 45 (R7 (some ⟨v6.heap.size,0,none⟩) n n)).size=88:=by simpa using m8
 generalize x6.setIfInBounds 45 (R7 (some ⟨v6.heap.size,0,none⟩) n n)=x7 at i4 n1 k1 k2 f2 f3 f4 b2;have r3:=ar.push j9;have A3:=A0.low a2 A1.w (dV.of r3 m9);have i5:=Nat.le_trans m9 r3.1;have r4:=r2.le A2;have b3:P.heap[v6.heap.size]? =some (.cells cc 116 (0,0)):=by rw[j9];simp
 obtain ⟨kU,_,k3⟩:=(i4.ev b2).iO;have k5:=g.fp.wb _ _ k3 ⟨cc,_,_,b3,0,YP,YR⟩;refine aa.fP (i:=3) (R:=λu D=>u=ptr P.heap.size/\D.heap=P.heap.push (.cells #[.slice none 0 0] 114)) bh ⟨_,Try.func19⟩ Zt rfl rfl Zs YU YU g i4 (λtp=>aL (ll rfl Ee) ⟨rfl,rfl⟩) ?_;rintro G1 y8 v8 w F8 u8 r5 n2 ⟨rfl,k6⟩ g n3;change aB _ (x7.setIfInBounds 11 (ptr P.heap.size)) _ at n3;have k7:=ab (d:=11) (u:=ptr P.heap.size) k1 YQ;have k8:=ab (d:=11) (u:=ptr P.heap.size) k2 YQ;have f5:=ab (d:=11) (u:=ptr P.heap.size) f2 YQ;have f6:=ab (d:=11) (u:=ptr P.heap.size) f3 YQ;have f7:=ab (d:=11) (u:=ptr P.heap.size) f4 YQ;have b4:=ab (d:=11) (u:=ptr P.heap.size) b2 YQ;have b5:=aE (u:=ptr P.heap.size) n1 (show 11<88 by decide);have r6:(x7.setIfInBounds 11 (ptr P.heap.size)).size=88:=by simpa using n1
 generalize x7.setIfInBounds 11 (ptr P.heap.size)=x8 at n3 r6 k7 k8 f5 f6 f7 b4 b5;have n4:=ar.push k6;have A4:=A3.low a2 r5.w (dV.of n4 i5);have A5:=Nat.le_trans i5 n4.1;have r7:=r4.le n2;have n5:=Bx.new k6;refine aa.fP (i:=4) (R:=λu D=>D.heap=(v8.setCell ⟨P.heap.size,0,none⟩ (R7 (some ⟨v6.heap.size,0,none⟩) n n)).heap) bh ⟨_,Try.func19⟩ Zt rfl rfl Zs YU YU g n3 (λtp=>ij (Cw rfl (ay b5) (ay b4) (show (aK v8 tp 0).cell? ⟨P.heap.size,0,none⟩=some (.slice none 0 0)from n5.cell) (show (aK v8 tp 0).frozen? ⟨P.heap.size,0,none⟩=false from n5.free)) rfl) ?_;rintro A6 y9 v9 w F9 u9 r8 n6 f8 g n7;have r9:=dV.set f8 i5;have A7:=A4.low a2 r8.w r9;have s0:=Nat.le_trans A5 r9.1;have s1:=r7.le n6;have A8:=n5.set f8;change aB _ x8 _ at n7;have s2:=aG b3;have n8:v9.heap[v6.heap.size]? =some (.cells cc 116 (0,0)):=by rw[f8,heap_set,if_neg (by show P.heap.size≠v6.heap.size;omega),n4.2 _ s2];exact b3
 have A9:sH A6 v9 F9 v4.heap.size n v6.heap.size kU P.heap.size:=⟨⟨cc,n8,n0⟩,r8 _ _ (r5 _ _ k3),A8.cell,⟨n6.wr _ (n2.wr _ k5),g.fg.ok.wr _ (n6.wr _ (n2.wr _ k5))⟩,YP,⟨m9,i5⟩⟩;refine aa.aH g λw g=> ?_;refine aa.ah g λw g=> ?_;refine aa.ah g λw g=> ?_;refine aa.aC g λw g=> ?_;have k9:=k7;have f9:=k8;have g0:=f5;have g1:=f6;have g2:=f7;have g3:=b4;have g4:=b5;have n9:=r6;generalize x8=x9 at n7 n9 k9 f9 g0 g1 g2 g3 g4;refine aa.fP (i:=0) (R:=λu D=>u= R7 (some ⟨q,0,none⟩) n n/\D.heap=v9.heap) bh ⟨_,Try.func19⟩ Zt rfl rfl Zs YU YU g n7 (λtp=>aJ rfl (ay f9) ⟨rfl,rfl⟩) ?_;rintro D1 G2 B0 w G3 u10 l0 l1 ⟨rfl,o0⟩ g g5;change aB _ (x9.setIfInBounds 46 (R7 (some ⟨q,0,none⟩) n n)) _ at g5;have g6:=ab (d:=46) (u:= R7 (some ⟨q,0,none⟩) n n) k9 YQ;have g7:=ab (d:=46) (u:= R7 (some ⟨q,0,none⟩) n n) f9 YQ;have c1:=ab (d:=46) (u:= R7 (some ⟨q,0,none⟩) n n) g0 YQ;have c2:=ab (d:=46) (u:= R7 (some ⟨q,0,none⟩) n n) g1 YQ;have c3:=ab (d:=46) (u:= R7 (some ⟨q,0,none⟩) n n) g2 YQ;have c4:=ab (d:=46) (u:= R7 (some ⟨q,0,none⟩) n n) g3 YQ;have c5:=ab (d:=46) (u:= R7 (some ⟨q,0,none⟩) n n) g4 YQ;have a4:=aE (u:= R7 (some ⟨q,0,none⟩) n n) n9 (show 46<88 by decide);have g8:(x9.setIfInBounds 46 (R7 (some ⟨q,0,none⟩) n n)).size=88:=by simpa using n9
 generalize x9.setIfInBounds 46 (R7 (some ⟨q,0,none⟩) n n)=o1 at g5 g8 g6 g7 c1 c2 c3 c4 c5 a4;have g9:=ar.heap o0;have s4:=A7.low a2 l0.w (dV.of g9 s0);have l2:=Nat.le_trans s0 g9.1;have o2:=s1.le l1;have s5:=A9.low l0.w g9 l1;refine aa.fP (i:=1) (R:=λu D=>u= R5 R6 n/\D.heap=B0.heap) bh ⟨_,Try.func19⟩ Zt rfl rfl Zs YU YU g g5 (λtp=>aL (oq rfl (ay a4) rfl) ⟨rfl,rfl⟩) ?_;rintro D2 G4 B1 w G5 u11 l3 l4 ⟨rfl,o3⟩ g h0;change aB _ (o1.setIfInBounds 47 (R5 R6 n)) _ at h0;have h1:=ab (d:=47) (u:= R5 R6 n) g6 YQ;have h4:=ab (d:=47) (u:= R5 R6 n) g7 YQ;have c6:=ab (d:=47) (u:= R5 R6 n) c1 YQ;have c7:=ab (d:=47) (u:= R5 R6 n) c2 YQ;have c9:=ab (d:=47) (u:= R5 R6 n) c3 YQ;have d0:=ab (d:=47) (u:= R5 R6 n) c4 YQ;have d1:=ab (d:=47) (u:= R5 R6 n) c5 YQ;have d2:=ab (d:=47) (u:= R5 R6 n) a4 YQ;have d3:=aE (u:= R5 R6 n) g8 (show 47<88 by decide);have h5:(o1.setIfInBounds 47 (R5 R6 n)).size=88:=by simpa using g8
 generalize o1.setIfInBounds 47 (R5 R6 n)=o4 at h0 h5 h1 h4 c6 c7 c9 d0 d1 d2 d3;have h6:=ar.heap o3;have s7:=s4.low a2 l3.w (dV.of h6 l2);have l5:=Nat.le_trans l2 h6.1;have o5:=o2.le l4;have s8:=s5.low l3.w h6 l4;refine aa.fP (i:=2) (R:=λu D=>u= R5 R6 (0:Nat)/\D.heap=B1.heap) bh ⟨_,Try.func19⟩ Zt rfl rfl Zs YU YU g h0 (λtp=>aJ rfl rfl ⟨rfl,rfl⟩) ?_;rintro s9 B2 B4 w B5 u12 l6 l7 ⟨rfl,o6⟩ g h7;change aB _ (o4.setIfInBounds 48 (R5 R6 (0:Nat))) _ at h7;have h8:=ab (d:=48) (u:= R5 R6 (0:Nat)) h1 YQ;have o7:=ab (d:=48) (u:= R5 R6 (0:Nat)) h4 YQ;have d4:=ab (d:=48) (u:= R5 R6 (0:Nat)) c6 YQ;have i6:=ab (d:=48) (u:= R5 R6 (0:Nat)) c7 YQ;have i7:=ab (d:=48) (u:= R5 R6 (0:Nat)) c9 YQ;have i8:=ab (d:=48) (u:= R5 R6 (0:Nat)) d0 YQ;have d5:=ab (d:=48) (u:= R5 R6 (0:Nat)) d1 YQ;have d6:=ab (d:=48) (u:= R5 R6 (0:Nat)) d2 YQ;have d7:=ab (d:=48) (u:= R5 R6 (0:Nat)) d3 YQ;have d8:=aE (u:= R5 R6 (0:Nat)) h5 (show 48<88 by decide);have l8:(o4.setIfInBounds 48 (R5 R6 (0:Nat))).size=88:=by simpa using h5
 generalize o4.setIfInBounds 48 (R5 R6 (0:Nat))=t0 at h7 l8 h8 o7 d4 i6 i7 i8 d5 d6 d7 d8;have h9:=ar.heap o6;have t1:=s7.low a2 l6.w (dV.of h9 l5);have t2:=Nat.le_trans l5 h9.1;have o8:=o5.le l7;have l9:=s8.low l6.w h9 l7;refine aa.aH g λw g=> ?_;refine aa.aV g λw g=> ?_;refine aa.dO g λw g=> ?_;rw[<-eL,<-eT];have t3:PY t0 v.heap.size v3.heap.size P.heap.size q n 0:=⟨l8,h8,d4,d5,d6,d7,d8⟩;refine Br (E:=E1 (Vy J tf Z Gn h X) C w4.heap.size) (bT:=v.heap.size) (bP:=P.heap.size) (Pb:=v6.heap.size) (kU:=kU) (J0:=n) a2 trivial rfl hn hF.few p7 (λb ob hb C7=>(g.held b ob hb).2.1 (by rw[C7];exact l9.own.1)) ?_ n 0 _ [] s9 B4 B5 w t0 B2 YP g t1 o8 t2 t3 l9 (λi hi=>absurd hi (Nat.not_lt_zero _)) (λ_ _=>rfl) h7;intro r lg i0 D F' w x G7 g B6 t4 G6 B8 C0 C1 C3;exact Bt rfl hn t8 m0 hb rfl p6 w7 q0 (hl.av m3) (λp hp=>Nat.lt_of_lt_of_le (t7 p hp) m3.1) (λC4 ve Fe we b z C5 t5 C6 O hz=>hK _ C4 ve Fe we b z ⟨rfl,rfl⟩ (j2.trans C5) t5 (m3.trans C6) O hz) g B6 t4 B8 C0 C1 C3
end
end
section
variable {m:Bool}{fn:FuncId}{q:Option Nat×List Deferred}
def LX (q:Option Nat×List Deferred)(fn:FuncId)(tmps:Array J8)(todo:List Item):Frame:={fn,tmps,todo,defers:=q.2,mode:= .returning,kind:= .normal,roundOf:=q.1}
def Iz (fn:FuncId)(tmps:Array J8)(ps:Array Tmp)(ac bd:K9)(X:Nat):Loop:={state:= .ready,pending:=none,fn,tmps,params:=ps,assign:=ac,body:=bd,defers:=X}
theorem Dv {a:Array Tmp}{b c:K9}:(Instr.enterLoop f y a b c none).events Try.prog w #[]= #[]:=by rfl
theorem sP(h:w.heap[n]? =S (.loop O))(a:Array Event):(P2 n).events Try.prog w a=a.push ⟨.obj n,false,false⟩:=by unfold P2 N4 P4;rw[h];rfl
theorem xB{b:Loop}(h:w.heap[n]? =S (.loop O))(a:Array Event):(Q8 n (.loop b)).events Try.prog w a=a.push ⟨.obj n,true,false⟩:=by unfold Q8 N4 P4;rw[h];rfl
theorem FJ {t:Tmp}{ps:Array Tmp}{ac bd:K9}{b:Func}{c:K9}{a:Array J8}(d:Try.prog.funcs[f]? =some b)(e:b.body=some c)(g:(b.name== "runtime.NumGoroutine")=false)(h:J2 ⟨y,[]⟩ (.tmp t)= .func (.func f) #[] a):
  K3 Try.prog p (G (ak fn y (.code (.rangeFunc (.tmp t) ps ac bd)::k)) l) w= .go (G (ak f (#[.func (.yield (w.heap.size + 1)) #[] #[]] ++ a ++ J5 (b.ntmps - (1 + a.size)) U) [.code c]) (aR (none,[⟨.collected w.heap.size,#[]⟩]) fn y (.inRangeFunc (w.heap.size + 1)::k)::l)) {w with heap:=(w.heap.push (.deferred (some []))).push (.loop (Iz fn y ps ac bd w.heap.size))} #[]:=by
 have i: ¬b.name= "runtime.NumGoroutine" :=by simpa using g
 have j:=run_enterLoop_outer (P:=Try.prog) (w:=w) fn y ps ac bd;have m:y[t]?.getD U= .func (.func f) #[] a:=by rw[<-J3];exact h
 simp only[G,ak,K3,L3,Q4];rw[j,Dv];simp[stepG.apply,O6,N5,m,K8,Q2,Q5,d,i,seen_none,L5,Frame.enter,e,aR,Iz];rfl
theorem Dw{args:Array J8}(h:w.heap[n]? =S (.loop O))(a:args.size=O.params.size):(Q6 n args).events Try.prog w #[]= #[⟨.obj n,false,false⟩]:=by unfold Q6 M6;simp[sP h,M0 h,a]
theorem FM{b:List Nat}{a:K1}{e:Array P0}{g:Tmp}(s:r[i]? =S o)(t:o.guard=none)(c:o.op= .call {callee:= .value x,args:= #[a],argTypes:=e})(q:J2 ⟨y,[]⟩ x= .func (.yield n) #[] #[])(h:w.heap[n]? =S (.loop O))(u:O.params= #[g]):
  K3 Try.prog p (G (ak f y (.inRegion r (i::b)::k)) l) w= .go (G (aR (S n,[]) O.fn (O.tmps.setIfInBounds g (J2 ⟨y,[]⟩ a)) [.code O.assign,.beginRound,.code O.body]) (ak f y (.inRegion r (i::b)::k)::l)) w (seen Try.prog f #[⟨.obj n,false,false⟩]):=by
 have v:L1 o (yielded r y)=true:=by unfold L1;rw[t]
 have A:=run_yield (P:=Try.prog) (args:= #[J2 ⟨y,[]⟩ a]) h YS;have B:=Dw (args:= #[J2 ⟨y,[]⟩ a]) h YS;have j:(J4 (J2 ⟨y,[]⟩) o).run Try.prog w= .ok (.round n O.fn (O.tmps.setIfInBounds g (J2 ⟨y,[]⟩ a)) O.assign O.body) w:=by unfold J4;simp only[c,O6,q];simp[K8,Q2,A,u]
 have m:(J4 (J2 ⟨y,[]⟩) o).events Try.prog w #[]= #[⟨.obj n,false,false⟩]:=by unfold J4;simp only[c,O6,q];simp[K8,Q2,B]
 have d:N5 (ak f y (.inRegion r (i::b)::k))=J2 ⟨y,[]⟩:=by funext z;cases z<;>rfl
 simp only[G,K3,ak,L3,s,K5,L6,v,if_true,Q9,Q7];simp only[ak]at d;simp[stepG.apply,d,j,m,Frame.round,aR,L5]
theorem FI(h:w.heap[n]? =S (.loop O))(a:O.state= .ready):K3 Try.prog p (G (aR (S n,[]) f y (.beginRound::k)) l) w= .go (G (aR (S n,[]) f y k) l) (w.putObj n (.loop {O with state:= .busy})) (seen Try.prog f #[⟨.obj n,false,false⟩,⟨.obj n,true,false⟩]):=by
 have b:=run_beginRound (P:=Try.prog) h a;have c:(O2 n).events Try.prog w #[]= #[⟨.obj n,false,false⟩,⟨.obj n,true,false⟩]:=by unfold O2 M6;simp[sP h,M0 h,xB h,run_setObj_loop _ h,a]
 simp[G,aR,K3,L3,stepG.apply,b,c,Frame.finish,L5]
theorem wu(h:w.heap[n]? =S (.loop O)):K3 Try.prog m (G (aR (S n,[]) f y []) (M::l)) w= .go (G (M.finish (.bool true)) l) (w.putObj n (.loop {O with state:= .ready,pending:=none})) (seen Try.prog f #[⟨.obj n,false,false⟩,⟨.obj n,true,false⟩]):=by
 have a:=run_endRound (P:=Try.prog) none h;have b:(P5 n none).events Try.prog w #[]= #[⟨.obj n,false,false⟩,⟨.obj n,true,false⟩]:=by unfold P5 M6;simp[sP h,M0 h,xB h]
 simp[G,aR,K3,L3,a,b,doReturn,L5]
theorem yJ(h:w.heap[n]? =S (.loop O))(a:O.state= .ready)(b:O.pending=none):K3 Try.prog p (G (aR q f y (.endRangeFunc n::k)) l) w= .go (G (aR q f y k) l) (w.putObj n (.loop {O with state:= .exhausted})) (seen Try.prog f #[⟨.obj n,false,false⟩,⟨.obj n,true,false⟩]):=by
 have c:=run_endLoop (P:=Try.prog) h YS;have d:(P8 n).events Try.prog w #[]= #[⟨.obj n,false,false⟩,⟨.obj n,true,false⟩]:=by unfold P8 M6;simp[sP h,M0 h,xB h,a]
 simp[G,aR,K3,L3,c,d,b,L5]
theorem Mj:K3 Try.prog p (G (aR (none,q.2) f y (.code .ret::k)) l) w= .go (G (LX (none,q.2) f y (.code .ret::k)) l) w #[]:=YV
theorem Jh(h:w.heap[n]? =S (.deferred (S []))):K3 Try.prog p (G (LX (none,[⟨.collected n,#[]⟩]) f y k) l) w= .go (G (cP f y k) l) (w.putObj n (.deferred none)) (seen Try.prog f #[⟨.obj n,false,false⟩,⟨.obj n,true,false⟩]):=by
 have b:=run_takeDeferred (P:=Try.prog) h;have c:(N6 n).events Try.prog w #[]= #[⟨.obj n,false,false⟩,⟨.obj n,true,false⟩]:=by
  unfold N6;have d:(P2 n).events Try.prog w #[]= #[⟨.obj n,false,false⟩]:=by unfold P2 N4 P4;rw[h];rfl
  have e:(P2 n).run Try.prog w= .ok (.deferred (S [])) w:=by simp[P2,Sem.run,h]
  have g: ∀a,(Q8 n (.deferred none)).events Try.prog w a=a.push ⟨.obj n,true,false⟩:=λa=>by unfold Q8 N4 P4;rw[h];rfl
  simp[d,e,g]
 simp[G,LX,cP,K3,unwind,b,c,L5]
theorem AY:(aR q f y (.inRangeFunc n::k)).finish u=aR q f y (.endRangeFunc n::k):=YV
end
section
open Classical
def HF (n:Nat)(a:Sx)(H:Nat->Prop):aq:=⟨λb=>b<n/\ ¬a b,λb=>((b<n/\ ¬a b)/\ ¬H b)/\a.n<=b,λ_ _=>False⟩
theorem HF.fg{S:Sx}(c: ∀b,S b->b<w.heap.size)(d:S.old w):FG (E0 S) (HF w.heap.size S L) w:=
 ⟨⟨λ_ h=>h.1.1,λ_ _ h=>h.elim⟩,λ_ _ h=>h.elim,λ_ h=>h.1,λb a=>⟨c b (a.resolve_right λh=>h.1),λh=>h.2 (a.resolve_right λh=>h.1),λ_ h=>h⟩,⟨λh=>h.elim,d⟩,λb a=>⟨λh=>by have:=h.2;exact absurd a (M8.2 this),λ_ h=>h⟩⟩
theorem HF.sub {n:Nat}{S:Sx}{H:Nat->Prop}:(HF n S H).sub (.all n S)/\(HF n S H).ok:=⟨⟨λ_ h=>h,λ_ h=>⟨h.1.1,h.2⟩,λ_ _ h=>h.elim⟩,⟨λ_ h=>h.1.1,λ_ _ h=>h.elim⟩⟩
def uq:Obj->Prop
 | .cells .. =>False
 | .number .. =>False
 | _=>True
def vB (a:Nat->Option Obj):cH:=⟨λ_ _=>none,a,λ_=>none⟩
section
variable {ρ:aU}{val:cH}{g g':Goroutine}{bk:Nat->Option Obj}
theorem At.QS(m:dA e v w)(g:FP e v F)(p:F.pure C)(q:C.old w)(j: ∀b,F.rd b->b<w.heap.size/\ ¬C b)(k: ∀b,F.wr b->F.rd b)(r: ∀b,C b->b<w.heap.size)(s: ∀b,L b-> ∃o,w.heap[b]? =S o/\uq o)(l: ∀b a,bk b=S a->(b<w.heap.size/\ ¬C b)/\L b/\w.heap[b]? =S a):
  At (E0 C) e v (HF w.heap.size C L) (vB bk) w where
 bQ:=m
 fp:=⟨λb x d i=>j x (g.dc b x d i),λb x d i=>⟨⟨j x (k x (g.wb b x d i)),λt=>by obtain ⟨o,u,y⟩:=s x t;obtain ⟨c,z,f,A,B,_,n,_⟩:=m.cells b x d;rw[u]at n;cases n;exact y⟩,M8.1 λh=>(p x h).1 (g.wb b x d i)⟩,λb x h=>j x (g.num b x h)⟩
 fg:=HF.fg r q
 cells:=λ_ _ h=>h.elim
 held b a h:=⟨(l b a h).1,λk=>k.1.2 (l b a h).2.1,(l b a h).2.2⟩
theorem dA.SR {j:World}(d:dA e v w)(t: ∀b,b≠n->j.heap[b]? =w.heap[b]?)(u: ∃o,w.heap[n]? =S o/\uq o)(m:j.heap.size=w.heap.size):dA e v j where
 size:=d.size
 inj:=d.inj
 low i x k hi hk:=by rw[m];exact d.low i x k hi hk
 et:=d.et
 pos:=⟨d.pos.1,YS⟩
 cells b x hb:=by obtain ⟨c,h,f,y,z,p,g,q,A⟩:=d.cells b x hb;obtain ⟨o,r,s⟩:=u;refine ⟨c,h,f,y,z,p,?_,q,A⟩;rw[t x λh=>by rw[h,r]at g;cases g;exact s];exact g
 num b x hb:=by obtain ⟨a,B,l,p,g,q⟩:=d.num b x hb;obtain ⟨o,r,s⟩:=u;refine ⟨a,B,l,p,?_,q⟩;rw[t x λh=>by rw[h,r]at g;cases g;exact s];exact g
theorem cO.hold (i:At (E0 C) e v F val w)(f: ∀b d,bk b=S d->F.rd b/\w.heap[b]? =S d/\uq d)(K: ∀m n,At (E0 C) e v m (vB bk) n->cO a C m g n):cO a C F g w:=
 cO.tI λo j p=>by
  have c:=i.rely j;refine ⟨HF o.heap.size C (λb=>(bk b).isSome),HF.sub.1,HF.sub.2,K _ _ (At.QS c.bQ c.fp c.fg.pure c.fg.live.2 (λb h=>⟨c.fg.dZ b h,λk=>(c.fg.out b (.inl k)).2.1 h⟩) c.fg.ok.wr p (λb h=> ?_) λb d h=> ?_)⟩
  ·obtain ⟨d,h⟩:=Option.isSome_iff_exists.1 h;exact ⟨d,(j.keep.same b (f b d h).1).trans (f b d h).2.1,(f b d h).2.2⟩
  ·have l:=(f b d h).1;exact ⟨⟨c.fg.dZ b l,λk=>(c.fg.out b (.inl k)).2.1 l⟩,by rw[h];rfl,(j.keep.same b l).trans (f b d h).2.1⟩
theorem cO.put {X:Nat}{o o':Obj}{es:Array Event}(E:At (E0 C) ρ v F (vB bk) w)(N:bk X=some o)(s:C.n<=X)(O:uq o)(G:uq o')(y: ∀b ob,bk b=some ob->uq ob)(W:g.status= .running)(H:Up g')(P: ∀l,l.heap[X]? =some o->K3 Try.prog true g l= .go g' (l.putObj X o') es)(I: ∀e∈es,e=⟨.obj X,false,false⟩\/e=⟨.obj X,true,false⟩)
  (K: ∀Q w',At (E0 C) ρ v Q (vB λb=>if b=X then some o' else bk b) w'->cO a C Q g' w'):cO a C F g w:=
 cO.tI λl Y T=>by
  have d:=E.rely Y;have j: ∀b,F.rd b->b<l.heap.size/\ ¬C b:=λb h=>⟨d.fg.dZ b h,λZ=>(d.fg.out b (.inl Z)).2.1 h⟩;have m:=j X (d.held X o N).1;have V:FG (E0 C) (HF l.heap.size C λ_=>False) l:=HF.fg T d.fg.live.2;refine ⟨HF l.heap.size C (λ_=>False),HF.sub.1,HF.sub.2,?_⟩;have u: ∀i,RK (E0 C) (HF l.heap.size C λ_=>False) l i->i.heap[X]? =some o:=λi n=>(n.keep.same X m).trans (d.held X o N).2.2;have k: ∀ (i:World) b,b≠X->(i.putObj X o').heap[b]? =i.heap[b]? :=λi b t=>by show (i.heap.setIfInBounds X o')[b]? =_;grind
  have q: ∀i:World,(i.putObj X o').heap.size=i.heap.size:=YR;have D: ∀ (i:World) b c e f,i.heap[X]? =some o->i.heap[b]? =some (.cells c e f)->b≠X:=λi b c e f r p e=>by rw[e,r]at p;cases p;exact O
  refine aa.step (λi=>(HF l.heap.size C λ_=>False).add i.heap.size (i.putObj X o').heap.size) W Zt (λi n=>⟨g',_,es,P i (u i n),⟨λb t z _=>k i b λe=>z (by rw[e];exact ⟨⟨m,λh=>h⟩,s⟩),λb c e f z h=>⟨c,YS,R,λ_ _=>rfl⟩,YR,λb c e f h=>⟨c,f,YS⟩,R,R,R,λe J=> ?_⟩,H,aq.dG _,((V.keep n).did ⟨λb t z _=>k i b λe=>z (by rw[e];exact ⟨⟨m,λh=>h⟩,s⟩),λb c e f z h=>⟨c,YS,R,λ_ _=>rfl⟩,YR,λb c e f h=>⟨c,f,YS⟩,R,R,R,λe J=>(by simp at J:False).elim⟩ (es:= #[])).ok⟩) (λi g2 w3 a0 n e=> ?_)
  ·rcases I e J with rfl | rfl
   ·exact .obj (.inl m)
   ·exact .yY (.inl ⟨⟨m,λh=>h⟩,s⟩)
  ·rw[P i (u i n)]at e;cases e;have L:dA ρ v i:=by have:FP ρ v (HF l.heap.size C λ_=>False):=⟨λb x r p=>j x (d.fp.dc b x r p),λb x r p=>⟨⟨j x (d.fg.ok.wr x (d.fp.wb b x r p)),λh=>h⟩,M8.1 λh=>(d.fg.pure x h).1 (d.fp.wb b x r p)⟩,λb x h=>j x (d.fp.num b x h)⟩;exact d.bQ.keep this n.keep
   have M:=L.SR (k i) ⟨o,u i n,O⟩ (q i);have A:=n.keep.size;have B: ∀b ob,bk b=some ob->i.heap[b]? =some ob:=λb ob h=>(n.keep.same b (j b (d.held b ob h).1)).trans (d.held b ob h).2.2;refine cO.hold (F:=(HF l.heap.size C λ_=>False).add i.heap.size (i.putObj X o').heap.size) (val:=bO) (bk:=λb=>if b=X then some o' else bk b) ⟨M,⟨λb x r p=> .inl (j x (d.fp.dc b x r p)),λb x r p=> .inl ⟨⟨j x (d.fg.ok.wr x (d.fp.wb b x r p)),λh=>h⟩,M8.1 λh=>(d.fg.pure x h).1 (d.fp.wb b x r p)⟩,λb x h=> .inl (j x (d.fp.num b x h))⟩,?_,λ_ _ h=>h.elim,pQ _ _⟩ (λb ob h=> ?_) K
   ·refine ⟨⟨λb h=>h.imp (λh=>h.1.1) id,λ_ _ h=>h.elim⟩,λ_ _ h=>h.elim,λb h=> ?_,λb t=>⟨?_,λh=> ?_,λ_ h=>h⟩,⟨λh=>h.elim,Sx.dR n.ok.2 YR (λb t=>k i b λe=>by rw[e]at t;exact absurd t (M8.2 s)) ⟨R,R⟩⟩,V.pure.add n.ok.2.1⟩
    ·rw[q];rcases h with h | h
     ·exact J9 h.1 A
     grind
    ·rw[q];exact J9 (T b (t.resolve_right λh=>h.1)) A
    ·rcases h with h | h
     ·exact h.2 (t.resolve_right λh=>h.1)
     grind
   ·by_cases e:b=X
    ·subst e;rw[if_pos R]at h;cases h;exact ⟨.inl m,by show (i.heap.setIfInBounds b _)[b]? =_;grind,G⟩
    ·rw[if_neg e]at h;exact ⟨.inl (j b (d.held b ob h).1),(k i b e).trans (B b ob h),y b ob h⟩
theorem cO.look{o:Obj}{m:Array Event}(d:At (E0 C) e v F (vB bk) w)(s:bk n=S o)(x:g.status= .running)(p:Up g')(t: ∀q,q.heap[n]? =S o->K3 Try.prog true g q= .go g' q m)(r: ∀j∈m,j=⟨.obj n,false,false⟩)
  (K: ∀u,At (E0 C) e v F (vB bk) u->cO a C F g' u):cO a C F g w:=by
 have l: ∀i,RK (E0 C) F w i->i.heap[n]? =S o:=λi k=>((d.rely k).held n o s).2.2;refine aa.step (λ_=>F) x Zt (λi k=>⟨g',_,m,t i (l i k),⟨λ_ _ _ _=>rfl,λb c j f _ h=>⟨c,h,R,λ_ _=>rfl⟩,L4 _,λb c j f h=>⟨c,f,h⟩,R,R,R,λj y=> ?_⟩,p,⟨λ_ h=> .inl h,λ_ h=> .inl h,λ_ _ h=> .inl h⟩,d.fg.ok⟩) (λi A B z k j=> ?_)
 ·rw[r j y];exact .obj (.inl (d.held n o s).1)
 ·rw[t i (l i k)]at j;cases j;exact K _ (d.rely k)
theorem cO.OL {o1:Obj}{o2:Nat->Obj}{g2:Nat->P9}(f:At (E0 C) e v F bO w)(l:uq o1)(m: ∀X,uq (o2 X))(t:g.status= .running)(n: ∀X,Up (g2 X))(r: ∀c,K3 Try.prog true g c= .go (g2 c.heap.size) {c with heap:=(c.heap.push o1).push (o2 c.heap.size)} #[])
  (K: ∀X i j,C.n<=X->At (E0 C) e v i (vB λb=>if b=X then some o1 else if b=X + 1 then some (o2 X)else none) j->cO a C i (g2 X) j):cO a C F g w:=by
 have d: ∀c:World,Grow c {c with heap:=(c.heap.push o1).push (o2 c.heap.size)}:=λc=>⟨λb x=>YS,YS,R,R,R⟩;have o: ∀c:World,({c with heap:=(c.heap.push o1).push (o2 c.heap.size)}:World).heap.size=c.heap.size + 2:=YR;refine aa.step (λc=>F.add c.heap.size ({c with heap:=(c.heap.push o1).push (o2 c.heap.size)}:World).heap.size) t Zt (λc k=>⟨_,_,_,r c,(d c).did λp u=>by simp at u,n _,aq.dG _,((f.rely k).grow (d c)).fg.ok⟩) (λc y z A k p=> ?_);rw[r c]at p;cases p;refine cO.hold ((f.rely k).grow (d c)) (λb B h=> ?_) λi j=>K c.heap.size i j k.ok.2.1;by_cases q:b=c.heap.size
 ·rw[if_pos q]at h;cases h;subst q;exact ⟨.inr ⟨L4 _,YS⟩,YS,l⟩
 ·rw[if_neg q]at h;by_cases s:b=c.heap.size + 1
  ·rw[if_pos s]at h;cases h;subst s;exact ⟨.inr ⟨YP,by rw[o];omega⟩,by show ((c.heap.push _).push _)[c.heap.size + 1]? =_;rw[Array.getElem?_push,if_pos YR],m _⟩
  grind
end
end
noncomputable def GI:Array Q0:=match Try.f41.body with | some (.region _ o _)=>o | _=> #[]
noncomputable def ML:Array Q0:=match GI[9]? with | some o=>GI.setIfInBounds 9 (idle o) | none=> #[]
section
variable {a:Act}
theorem IS {y:K1}{d:J8}{b:Array P0}(c:o.op= .call {callee:= .value (.func 15),args:= #[x,y],argTypes:=b})(h:a.eval x=u)(i:a.eval y=d)(f:R0 Try.prog 15 #[u,d] w λe g=> ∃v,e= .returned v/\t v g):bD Try.prog o a w t:=by
 refine .inr (.inr ⟨15,#[a.eval x,a.eval y],?_,?_⟩)
 ·clear f;simp[J4,c];go_simp
 grind
theorem Iv(h:w.cell? Q=S (.slice b n m)):(M1 106 (.pointer (S Q))).run Try.prog w= .ok (.slice b n m) w:=Zv
theorem Ix(h:w.cell? Q=S (.slice b n m)):(M1 90 (.pointer (S Q))).run Try.prog w= .ok (.slice b n m) w:=Zv
theorem Eb (b n c k:Nat)(w:World)(h:k<n)(a:n<=1000):(N0 106 (R7 (S ⟨b,0,none⟩) n c) (R5 R6 k)).run Try.prog w= .ok (R8 (S ⟨b,k,none⟩)) w:=by have d:(k:Int)<(n:Int):=YP;go_simp
theorem Ec (b n c k:Nat)(w:World)(h:k<n)(a:n<=1000):(N0 90 (R7 (S ⟨b,0,none⟩) n c) (R5 R6 k)).run Try.prog w= .ok (R8 (S ⟨b,k,none⟩)) w:=by have d:(k:Int)<(n:Int):=YP;go_simp
end
def Sr (a A b n m c i:Nat)(d:Option O4):Nat->J8->Prop
 | 5,v=>v= R7 (S ⟨a,0,none⟩) n n
 | 6,v=>v= R5 R6 i
 | 7,v=>v= R7 (S ⟨A,0,none⟩) n n
 | 8,v=>v= R5 R6 i
 | 9,v=>v= R8 (S ⟨A,i,none⟩)
 | 10,v=>v= R8 (S ⟨b,0,none⟩)
 | 11,v=>v= .slice d m c
 | 13,v=>v= R8 (S ⟨a,i,none⟩)
 | _,_=>True
theorem GB.cell {b:World}{g:Nat}(h:GB v b g){a:O4}(d:a.block≠g)(c:v.cell? a=S u):b.cell? a=S u:=by rw[M9 (w:=v) (h.2 _ (cy c) d)];exact c
theorem GB.of_low(h:ar v w):GB v w n:=⟨h.1,λb a _=>h.2 b a⟩
theorem GB.trans {a b c:World}{g:Nat}(h:GB a b g)(k:GB b c g):GB a c g:=⟨M4 h.1 k.1,λx d e=>(k.2 x (J9 d h.1) e).trans (h.2 x d e)⟩
def GL (N m:Nat)(Y:Nat->C2)(u:J8)(w:World):Prop:= ∃A,u= R7 (S ⟨A,0,none⟩) m m/\N<=A/\Ends w A m/\dy w A m Y
def Qd (c m:Nat)(Y:Nat->C2)(v:World)(b:Array Bool)(a:Act)(w:World):Prop:=GB v w c/\(b.getD 7 false=false->ar v w)/\(b.getD 7 false=true->GL v.heap.size m Y (a.eval (.tmp 12)) w)
theorem Qd.same{b:Array Bool}{a:Act}(h:Qd n m X v b a w)(i d:Nat)(u:J8)(e:i≠7)(f:d≠12):Qd n m X v (b.setIfInBounds i true) (a.put (S d) u) w:=
 ⟨h.1,λc=>h.2.1 (by simp_all),λc=>by rw[M5 false e]at c;rw[N9 YS];exact h.2.2 c⟩
theorem Pa {H I t B:Nat}{K:C2}{s:Nat->dM}(hA:v.cell? ⟨V,0,none⟩=S (R7 (S ⟨J,0,none⟩) n n))(hW:v.cell? ⟨W,0,none⟩=S (R7 (S ⟨A,0,none⟩) n n))(hP:v.cell? ⟨N,0,none⟩=S (.slice b m H))(hc:v.cell? ⟨A,i,none⟩=S (R8 (S ⟨I,0,none⟩)))
  (M:aF v I t B K s aI)(hk:B<=16)(hl:bj v (.slice b m H) m X)(hm:m<=1000000)(O: ∀C x,b=S ⟨C,x,none⟩->0<m->C≠t)(hi:i<n)(hn:n<=1000)(n1:V≠t)(n2:W≠t)(n3:N≠t)(n4:A≠t):
  (O3 0 ML true).wp Try.prog (λe a w'=>e= .normal/\a.defers= []/\ ∃u4 u5 u6 u7 u8 u9 P Q D,a.tmps= #[R5 R6 i,R8 (S ⟨W,0,none⟩),R8 (S ⟨N,0,none⟩),R8 (S ⟨V,0,none⟩),u4,u5,u6,u7,u8,u9,P,Q,D,R8 (S ⟨J,i,none⟩)]/\GL v.heap.size m (hU K B s aI X) D w'/\GB v w' t)
   ⟨#[R5 R6 i,R8 (S ⟨W,0,none⟩),R8 (S ⟨N,0,none⟩),R8 (S ⟨V,0,none⟩),U,U,U,U,U,U,U,U,U,U],[]⟩ v:=by
 have y:ML=ML:=rfl;conv at y=>rhs;unfold ML GI;simp only[Try.f41]
 simp only[List.getElem?_toArray,List.getElem?_cons_succ,List.getElem?_cons_zero,List.setIfInBounds_toArray,List.set_cons_succ,List.set_cons_zero,idle]at y;rw[y];refine cv (Sr J A I n m H i b) (Qd t m (hU K B s aI X) v) Zs Zs Zs 14 Zs R ?_ ?_ ?_
 ·exact ⟨.of_low ⟨L4 _,λ_ _=>rfl⟩,λ_=>⟨L4 _,λ_ _=>rfl⟩,λh=>by simp at h⟩
 ·intro listed l L k o q ho T Y z;have a6:k<10:=by simpa using (K7.1 ho).1
  have f:=q.world;rcases (by omega:k=0\/k=1\/k=2\/k=3\/k=4\/k=5\/k=6\/k=7\/k=8\/k=9)with rfl | rfl | rfl | rfl | rfl | rfl | rfl | rfl | rfl | rfl
  all_goals obtain rfl:=L2 ho
  ·exact bZ R (q.base 3 Zs) (Iv (f.1.cell n1 hA)) ⟨aj R R,f.same 0 5 _ YP YP⟩
  ·exact aJ R (q.base 0 Zs) ⟨aj R R,f.same 1 6 _ YP YP⟩
  ·exact bZ R (q.base 1 Zs) (Ix (f.1.cell n2 hW)) ⟨aj R R,f.same 2 7 _ YP YP⟩
  ·exact aJ R (q.base 0 Zs) ⟨aj R R,f.same 3 8 _ YP YP⟩
  ·exact cN R (q.slot 2 _ 7 R R (z ⟨2,.data⟩ YR R)) (q.slot 3 _ 8 R R (z ⟨3,.data⟩ YR R)) (Ec _ _ _ _ _ hi hn) ⟨aj R R,f.same 4 9 _ YP YP⟩
  ·exact bZ R (q.slot 4 _ 9 R R (z ⟨4,.data⟩ YR R)) (zL (f.1.cell n4 hc)) ⟨aj R R,f.same 5 10 _ YP YP⟩
  ·exact bZ R (q.base 2 Zs) (gq (f.1.cell n3 hP)) ⟨aj R R,f.same 6 11 _ YP YP⟩
  ·have Z:=cz Y T YQ;have r:=f.2.1 Z;obtain ⟨g,g',F,k1,k2,k3,k4,k5,k6⟩:=M;have a0:Links L t B s aI:=by have:=aF.mv ⟨g,g',F,k1,k2,k3,k4,k5,k6⟩ (λj u h=>r.cell h) (λ_=>r.2 _ k6) r.1;obtain ⟨p,p',a7,q1,q2,q3,_⟩:=this;exact q3
   refine IS R (q.slot 5 _ 10 R R (z ⟨5,.data⟩ YR R)) (q.slot 6 _ 11 R R (z ⟨6,.data⟩ YR R)) ((Og I t B F g g' m (.slice b m H) K X s aI L (λj u h=>r.cell (k1 j u h)) k2 (hl.av r.av) YP (λC x ⟨mm,c,e⟩ h0=>O C x YS h0) a0 k4 hk (J9 k6 r.1)).mono ?_);rintro e w3 ⟨A1,rfl,a1,_,a2,a3,_,G⟩;have a4:GB L w3 t:=⟨G.size,λC hb a8=>G.block C hb YS⟩;refine ⟨_,R,aj R trivial,f.1.trans a4,λh=> ?_,λ_=> ?_⟩
   ·simp_all
   ·have:(l.put (S 12) (R7 (S ⟨A1,0,none⟩) m m)).eval (.tmp 12)= R7 (S ⟨A1,0,none⟩) m m:=by simp[Act.put,J2,q.size]
    show GL _ _ _ ((l.put (S 12) _).eval (.tmp 12)) w3;rw[this];exact ⟨A1,R,M4 r.1 a1,a2,a3⟩
  ·exact cN R (q.slot 0 _ 5 R R (z ⟨0,.data⟩ YR R)) (q.slot 1 _ 6 R R (z ⟨1,.data⟩ YR R)) (Eb _ _ _ _ _ hi hn) ⟨aj R R,f.same 8 13 _ YP YP⟩
  ·refine aJ R R ⟨(λd h=>nomatch h),f.1,λh=> ?_,λh=> ?_⟩
   ·rw[M5 false YP]at h;exact f.2.1 h
   ·rw[M5 false YP]at h;exact f.2.2 h
 ·intro listed l L q w;have f:=q.world;have a5:=q.slot 8 _ 13 R R (w 8 YQ);have hu:=f.2.2 (w 7 YQ);have E:=gZ l 14 q.size;rw[q.defers]at E;replace E:l=⟨#[l.eval (.tmp 0),l.eval (.tmp 1),l.eval (.tmp 2),l.eval (.tmp 3),l.eval (.tmp 4),l.eval (.tmp 5),l.eval (.tmp 6),l.eval (.tmp 7),l.eval (.tmp 8),l.eval (.tmp 9),l.eval (.tmp 10),l.eval (.tmp 11),l.eval (.tmp 12),l.eval (.tmp 13)],_⟩:=E;rw[q.base 0 Zs,q.base 1 Zs,q.base 2 Zs,q.base 3 Zs,show l.eval (.tmp 13)= R8 (S ⟨J,i,none⟩)from a5]at E;exact ⟨R,q.defers,l.eval (.tmp 4),l.eval (.tmp 5),l.eval (.tmp 6),l.eval (.tmp 7),l.eval (.tmp 8),l.eval (.tmp 9),l.eval (.tmp 10),l.eval (.tmp 11),l.eval (.tmp 12),congrArg Act.tmps E,hu,f.1⟩
theorem Ku:Try.f41.body=S (.region 0 GI true):=Zs
theorem QO: ∃a,GI[9]? =S a/\a.dst=none/\a.guard=none/\a.op= .store 24 (.tmp 13) (.tmp 12):=by have h:(GI[9]?).map (λo=>(o.dst,o.guard,o.op))=S (none,none,.store 24 (.tmp 13) (.tmp 12)):=Zs;grind
theorem Ed:(Try.prog.info? 24).map (·.size)=S 1:=Zs
structure PM (N n A Km bP bA m:Nat)(ad:Option O4)(ns B L:Nat->Nat):Prop where
 low: ∀i,i<n->L i<N
 inj: ∀i k,i<n->k<n->i≠k->L i≠L k
 BR: ∀i k,i<n->k<n->B k≠L i
 ov: ∀i,i<n->A≠L i/\Km≠L i/\bP≠L i/\bA≠L i
 LP: ∀i b off,i<n->ad=S ⟨b,off,none⟩->0<m->b≠L i
 few: ∀i,i<n->ns i<=16
structure sF (v:World)(n A Km bP bA Rl m cp:Nat)(ad:Option O4)(B:Nat->Nat)(X:Nat->C2):Prop where
 wk:v.cell? ⟨Km,0,none⟩=S (R7 (S ⟨A,0,none⟩) n n)
 pc:v.cell? ⟨bP,0,none⟩=S (.slice ad m cp)
 an:v.cell? ⟨bA,0,none⟩=S (R7 (S ⟨Rl,0,none⟩) n n)
 works: ∀i,i<n->v.cell? ⟨A,i,none⟩=S (R8 (S ⟨B i,0,none⟩))
 list:bj v (.slice ad m cp) m X
theorem sF.keep{q r:Nat}{l:Option O4}{L:Nat->Nat}(d:PM N n A J W V m l T B L)(h:sF v n A J W V q m r l B X)(t:v.heap.size<=w.heap.size)(k: ∀a u,(∀i,i<n->a.block≠L i)->v.cell? a=S u->w.cell? a=S u):sF w n A J W V q m r l B X where
 wk:=k _ _ (λi c=>(d.ov i c).2.1) h.wk
 pc:=k _ _ (λi c=>(d.ov i c).2.2.1) h.pc
 an:=k _ _ (λi c=>(d.ov i c).2.2.2) h.an
 works i c:=k _ _ (λj o=>(d.ov j o).1) (h.works i c)
 list:=by
  obtain ⟨f,x,e,y⟩:=h.list;refine ⟨f,x,e,λj o=> ?_⟩;obtain ⟨b,g,u,s,z,C,D⟩:=y j o;have p:l=f:=by simp at e;exact e.1
  exact ⟨b,g,u,s,J9 z t,k _ _ (λi c=>d.LP i b g c (p.trans s) YP) C,D⟩
def Cz (b:Nat->Nat)(c:Nat->C2)(a:Nat->Nat->dM)(X:Nat->C2)(i:Nat):Nat->C2:=hU (c i) (b i) (a i) aI X
structure NH (mg:aU)(N n A Km bP bA Rl R m cp W f:Nat)(ad:Option O4)(ns B L:Nat->Nat)(Gn:Nat->C2)(sec:Nat->Nat->dM)(X:Nat->C2)(D:Nat->Prop)(ρ:aU)(v:World)(F:aq)(val:cH):Prop where
 bx:sF v n A Km bP bA Rl m cp ad B X
 size:N<=v.heap.size
 dp: ∀i,i<n->i % W=f-> ¬D i->aF v (B i) (L i) (ns i) (Gn i) (sec i) aI
 at':ρ[Rl]? =S (R,.cells)
 ext:Ext mg ρ
 cl:F.cl=Qy R 1 n W f
 sz:val.sz R=S (1 * n)
 did: ∀i,i<n->D i-> ∃A' z,N<=A'/\Ends v A' m/\dy v A' m (Cz ns Gn sec X i)/\VR ρ (R7 (S ⟨A',0,none⟩) m m) z/\val.cl R i=S z
section
variable {bA Rl R cp f:Nat}{Gn:Nat->C2}
theorem Ends.gb(h:Ends v A m)(k:GB v w n)(a:A≠n):Ends w A m:=by obtain ⟨c,e,d,b,f⟩:=h;exact ⟨c,e,d,(k.2 _ (aG b) a).trans b,f⟩
theorem dy.gb(h:dy v A m X)(k:GB v w n)(a:A≠n):dy w A m X:=λj b=>by obtain ⟨u,c,d⟩:=h j b;exact ⟨u,k.cell a c,d⟩
theorem NH.stay{p g:aU}{q:aq}(r:PM N n A J V bA m b T B Z)(l:Ext p g)(k:w.heap=v.heap)(s:F.le q)(d:NH e N n A J V bA Rl R m cp W f b T B Z Gn h X L p v F j):NH e N n A J V bA Rl R m cp W f b T B Z Gn h X L g w q j where
 bx:=d.bx.keep r YS λa u _ t=>(aA.heap k).2 a u t
 size:=by rw[k];exact d.size
 dp i hi hf hD:=(d.dp i hi hf hD).heap k
 at':=l _ _ d.at'
 ext:=d.ext.trans l;cl:=s.uK.trans d.cl
 sz:=d.sz
 did i hi hD:=by obtain ⟨x,z,y,⟨c,C,D,P,o⟩,E,G,H⟩:=d.did i hi hD;exact ⟨x,z,y,⟨c,C,D,YS,o⟩,λI K=>by obtain ⟨u,M,O⟩:=E I K;exact ⟨u,(aA.heap k).2 _ _ M,O⟩,G.mono l,H⟩
theorem Mu{bF bN bW bK:Nat}(I:PM N n A i J V m b T B Z)(hm:m<=1000000)(hn:n<=1000)(g1:N<=bF)(g2:N<=bN)(g3:N<=bW)(g4:N<=bK):
  kn E c D a s z n W f bF bN bW bK 41 #[R8 (S ⟨i,0,none⟩),R8 (S ⟨J,0,none⟩),R8 (S ⟨V,0,none⟩)] Try.f41 (.region 0 GI true) (NH e N n A i J V Rl R m cp W f b T B Z Gn h X):=by
 intro c6 p ρ v F val w c7 l L C b1 hD q r P hg K;have c2:L.size=3:=by have:=P.1;simpa using this.symm
 have hv:aB ρ #[R5 R6 p,R8 (S ⟨i,0,none⟩),R8 (S ⟨J,0,none⟩),R8 (S ⟨V,0,none⟩),U,U,U,U,U,U,U,U,U,U] (#[R5 R6 p] ++ L ++ J5 10 U):=by
  have h1:aB ρ #[R5 R6 p] #[R5 R6 p]:=⟨rfl,λj x y hx hy=>by
   cases j with
   | zero=>simp at hx hy;subst hx;subst hy;exact .int _ _
   | succ j=>simp at hx⟩
  exact (aB.append h1 P).ei 10
 rw[show Try.f41.ntmps - (1 + L.size)=10 by simp_all];obtain ⟨os,h9,Y,a0,a1⟩:=QO;have b2:=q.dp p C b1 hD;obtain ⟨oA,oW,oP,b3⟩:=I.ov p C;refine aa.Ds (Q:=λx' v'=> ∃u4 u5 u6 u7 u8 u9 a2 a3 M,x'= #[R5 R6 p,R8 (S ⟨i,0,none⟩),R8 (S ⟨J,0,none⟩),R8 (S ⟨V,0,none⟩),u4,u5,u6,u7,u8,u9,a2,a3,M,R8 (S ⟨Rl,p,none⟩)]/\GL v.heap.size m (Cz T Gn h X p) M v'/\GB v v' (Z p)) bh ⟨_,Try.func41⟩ Zt Zs h9 Y a0 Zs Zs Zs (λx v1 tp d a4=>a4) (λx v1 tp d a4=>a4) r hv (λtp=> ?_) ?_
 ·have b4:ML=GI.setIfInBounds 9 (idle os):=by unfold ML;rw[h9]
  rw[<-b4];exact Pa (v:=aK v tp 0) q.bx.an q.bx.wk q.bx.pc (q.bx.works p C) (b2.heap rfl) (I.few p C) (q.bx.list.av (aA.heap rfl)) hm (λc3 b5 b4 h0=>I.LP p c3 b5 C b4 h0) C hn b3 oW oP oA
 ·rintro b6 x' y' v' w' F' hE hF ⟨u4,u5,u6,u7,u8,u9,a2,a3,M,rfl,⟨A1,rfl,b7,b8,b9⟩,g⟩ a5 a6;have a7:=hF.uK.trans q.cl;have hz:=a6.ev (t:=12) rfl;obtain ⟨A2,a8,_⟩:=id hz.iO;refine aa.put (R:=R) (o:=p) (vs:= [Act.eval ⟨y',[]⟩ (.tmp 12)]) a5 Zt h9 a0 Y a1 ((a6.ev (t:=13) rfl).at (hE _ _ q.at')) (by rw[a8];rfl) (λu hu=>by rw[List.mem_singleton.1 hu,a8];rfl) Ed YR (λj H=> ?_) (λw1 a9=> ?_)
  ·rw[a7];simp at H;subst H;exact ⟨rfl,YP,YS⟩
  ·refine aa.aH a9 λw r=> ?_;refine aa.gQ r λw r=> ?_;refine aa.go r YR (λ_=>dT Try.func41 rfl) λw r=> ?_;have c4:=I.low p C;refine K b6 v' F' (val.put R p [Act.eval ⟨y',[]⟩ (.tmp 12)]) w hE hF rfl r ⟨q.bx.keep I g.1 λc9 u ha hu=>g.cell (ha p C) hu,M4 q.size g.1,λj H c1 O=> ?_,hE _ _ q.at',q.ext.trans hE,a7,q.sz,λj H O=> ?_⟩ ⟨g.cell YS hg.f,g.cell YS hg.n,g.cell YS hg.w,g.cell YS hg.k⟩
   ·have G:j≠p:=by omega
    have b0:=q.dp j H c1 λa4=>O (.inl a4);exact b0.mv (λk u hu=>g.cell (I.BR p j C H) hu) (λ_=>g.2 _ b0.lt.2.1 (I.inj j p H C G)) g.1
   ·by_cases G:j=p
    ·subst G;refine ⟨A1,_,M4 q.size b7,b8,b9,hz,?_⟩;show (if R=R/\j<=j/\j<j + 1 then [Act.eval ⟨y',[]⟩ (.tmp 12)][j - j]? else val.cl R j)=_;simp
    ·obtain ⟨A',c5,k1,k2,k3,k4,k5⟩:=q.did j H (O.resolve_right G);refine ⟨A',c5,k1,k2.gb g YP,k3.gb g YP,k4.mono hE,?_⟩;simp only[cH.put];grind
end
structure Qp (A Km bP bA Rl m:Nat)(ad:Option O4):Prop where
 a:A≠Rl
 wk:Km≠Rl
 p:bP≠Rl
 an:bA≠Rl
 l: ∀b off,ad=S ⟨b,off,none⟩->0<m->b≠Rl
theorem sF.OD{t:Nat}(g:PM N n A i J W m b T B Z)(l:Qp A i J W V m b)(h:sF v n A i J W V m t b B X)(x:v.heap.size<=w.heap.size)(k: ∀a u,a.block≠V->(∀c,c<n->a.block≠Z c)->v.cell? a=S u->w.cell? a=S u):sF w n A i J W V m t b B X where
 wk:=k _ _ l.wk (λc d=>(g.ov c d).2.1) h.wk
 pc:=k _ _ l.p (λc d=>(g.ov c d).2.2.1) h.pc
 an:=k _ _ l.an (λc d=>(g.ov c d).2.2.2) h.an
 works c d:=k _ _ l.a (λj q=>(g.ov j q).1) (h.works c d)
 list:=by
  obtain ⟨o,y,e,z⟩:=h.list;refine ⟨o,y,e,λj q=> ?_⟩;obtain ⟨r,f,u,s,C,D,E⟩:=z j q;have p:b=o:=by simp at e;exact e.1
  exact ⟨r,f,u,s,J9 C x,k _ _ (l.l r f (p.trans s) YP) (λc d=>g.LP c r f d (p.trans s) YP) D,E⟩
def GP (n W:Nat)(a b:Nat->Nat)(g x:Nat):Prop:= ∃i,i<n/\i % W=g/\0<a i/\x=b i
structure RM (mg:aU)(v0:World)(Rl n W bN bW bK:Nat)(ns B L Lr:Nat->Nat)(Gn:Nat->C2)(sec:Nat->Nat->dM)(f:Nat)(ρ:aU)(v:World):Prop where
 ext:Ext mg ρ
 size:v0.heap.size<=v.heap.size
 keep: ∀a u,a.block≠Rl->(∀i,i<n->a.block≠L i)->v0.cell? a=S u->v.cell? a=S u
 wQ: ∃e f,v.heap[Rl]? =S (.cells #[] e f)
 dp: ∀i,i<n->f<=i % W->aF v (B i) (L i) (ns i) (Gn i) (sec i) aI
 fr: ∀b:Nat,b=bN\/b=bW\/b=bK-> ∃p,ρ[b]? =S p/\ ∀i,i<n->p≠(Lr i,BK.cells)
def RO (d:aU)(h:Sx)(g n m W j:Nat)(Y:Nat->Nat->C2)(f:Nat):bC:=λF w=> ∀i,i<n->i % W=f-> ∃a,(∀b:Nat,d[b]? ≠S (a,BK.cells))/\F.cl g i/\(∃c e k,w.heap[g]? =S (.cells c e k)/\c.size=n/\c[i]? =S (R7 (S ⟨a,0,none⟩) m m))/\mB w a m (Y i)/\(0<m->F.rd a/\ ¬ (h a\/a=j))
section
variable {V:Nat->Nat->Value->Prop}{bP bA Rl R cp bN bW bK:Nat}{Lr:Nat->Nat}{Gn:Nat->C2}{sec:Nat->Nat->dM}{mg:aU}
theorem Ja (hW:0<W)(O:n + W<4611686018427387904)(hn:n<=1000)(hm:m<=1000000)(M:PM N n A J bP bA m b T B Z)(hq:Qp A J bP bA Rl m b)(hN:N<=w.heap.size)(a4:w.heap.size<=N)(a5:w.heap.size=mg.size)(I: ∀d b' x:Nat,mg[d]? =S (x,.cells)->mg[b']? =S (x,.cells)->d=b')(P:mg[Rl]? =S (R,.cells))(y: ∀i,i<n->mg[Z i]? =S (Lr i,.cells))(q:sF w n A J bP bA Rl m cp b B X)(Q: ∀i,i<n->B i<w.heap.size)
  (g2:N<=bN)(g3:N<=bW)(g4:N<=bK)(Wg:Nat):
  iT (E1 V C Wg) (GP n W T Lr) R 1 n W bN bW bK 41 #[R8 (S ⟨J,0,none⟩),R8 (S ⟨bP,0,none⟩),R8 (S ⟨bA,0,none⟩)] Try.f41 (.region 0 GI true) (λ_=>none) (RM mg w Rl n W bN bW bK T B Z Lr Gn sec) (λf=>NH mg N n A J bP bA Rl R m cp W f b T B Z Gn sec X) (RO mg C R n m W Wg (Cz T Gn sec X)):=by
 have nm: ∀ {ρ:aU}(_:Ext mg ρ){d x i:Nat},d<w.heap.size->i<n->ρ[d]? =S (x,.cells)->x=Lr i->d=Z i:=λ{ρ} o {d x i} E hi q e=>by have Y:d<mg.size:=YP;have h1:=o _ _ (show mg[d]? =S mg[d]from J7 Y);rw[q]at h1;refine I d (Z i) (Lr i) ?_ (y i hi);grind
 have sn: ∀ {ρ:aU}{v:World}(_:Ext mg ρ){s Wk:Nat->Prop}{a:Addr}{u:Value},(∀x,s x-> ∃i,i<n/\x=Lr i)->a.block<w.heap.size->(∀i,i<n->a.block≠Z i)->v.cell? a=S u->(dL ρ s Wk v).cell? a=S u:=λ{ρ v} o {s Wk a u} hX E ho l=>bz l λx hx a6=>by grind
 have cs: ∀ {ρ:aU}{v:World}(_:Ext mg ρ){s Wk:Nat->Prop}{i:Nat},(∀x,s x-> ∃i,i<n/\x=Lr i)->i<n->(0<T i->Wk (Lr i))->aF v (B i) (Z i) (T i) (Gn i) (sec i) aI->aF (dL ρ s Wk v) (B i) (Z i) (T i) (Gn i) (sec i) aI:=λ{ρ v} o {s Wk i} hX hi a0 hc=>by refine hc.mv (λk u l=>sn o hX (Q i hi) (λj hj=>M.BR j i hj hi) l) (λh0=> ?_) (by rw[bq];exact Nat.le_refl _);have hl:=hc.lt.2.1;have:=jS (X:=s) (Wk:=Wk) (h:=J7 hl) (o _ _ (y i hi)) (a0 h0);grind
 have lt: ∀g x,fi (GP n W T Lr) W g x-> ∃i,i<n/\x=Lr i:=λg x ⟨_,_,_,i,hi,_,_,e⟩=>⟨i,hi,e⟩;have wt: ∀g x,GP n W T Lr g x-> ∃i,i<n/\x=Lr i:=λg x ⟨i,hi,_,_,e⟩=>⟨i,hi,e⟩;exact {
  on:=trivial
  w0:=hW
  s0:=YQ
  small:=O
  fn:=Try.func41
  name:=Zs
  body:=Ku
  ej:=λf ρ a1 v v' o G H h=>by obtain ⟨e,fz,hh⟩:=h.wQ;have t:ar v v':=⟨G,H⟩;refine ⟨h.ext.trans o,Nat.le_trans h.size G,λa u h1 h2 l=>t.cell (h.keep a u h1 h2 l),⟨e,fz,(H Rl (aG hh)).trans hh⟩,λi hi hf=>(h.dp i hi hf).mv (λ_ _ l=>t.cell l) (λ_=>H _ (h.dp i hi hf).lt.2.1) G,λd E=> ?_⟩;obtain ⟨p,h1,h2⟩:=h.fr d E;exact ⟨p,o _ _ h1,h2⟩
  next:=λf ρ v h=>⟨h.ext,by rw[bq];exact h.size,λa u h1 h2 l=>sn h.ext (wt f) (cy l) h2 (h.keep a u h1 h2 l),Ap h.wQ,λi hi hf=>cs h.ext (wt f) hi (λh0=>⟨i % W,hf,Nat.mod_lt _ hW,i,hi,rfl,h0,rfl⟩) (h.dp i hi YP),h.fr⟩
  child:=λf ρ v F A' B' val a3 hf hz h r=>⟨q.OD M hq (by rw[bq];exact h.size) λa u h1 h2 l=>sn h.ext (lt (f + 1)) (cy l) h2 (h.keep a u h1 h2 l),by rw[bq];exact Nat.le_trans hN h.size,λi hi MS _=>cs h.ext (lt (f + 1)) hi (λh0=>⟨i,hi,MS,h0,rfl⟩) (h.dp i hi YP),h.ext _ _ P,h.ext,rfl,hz,λi _ hD=>hD.elim⟩
  work:=λf bF hf a7=>Mu M hm hn YP g2 g3 g4
  stay:=λf D ρ a1 v v' F F' val o hv hF h=>h.stay M o hv hF
  OG:=λf D ρ v F val a3 h r K i hi MS=>by
   obtain ⟨A',z,k1,k2,k3,k4,k5⟩:=h.did i hi (K i hi MS);obtain ⟨X',hz,L⟩:=k4.iO;subst hz;have RS:F.cl R i:=by rw[h.cl];exact ⟨rfl,YP,by rw[Nat.div_one];exact MS⟩
   obtain ⟨c,e,fz,u,h1,h2,_,h4,h5⟩:=r.cells R i RS;obtain ⟨hr,a2⟩:=r.row L k2 k3;refine ⟨X',λd E=> ?_,RS,⟨c,e,fz,h1,by have:=h5 _ h.sz;omega,by rw[h2,h4 _ k5]⟩,hr,a2⟩;have:=r.bQ.inj _ _ _ _ _ L (h.ext _ _ E) YQ YQ;grind
  keep:=λf F a3 w1 k h i hi MS=>by obtain ⟨X',SO,h1,⟨c,e,fz,h2,h3,h4⟩,h5,h6⟩:=h i hi MS;obtain ⟨c1,m1,m2,m3⟩:=k.cell R i c e fz h1 h2;exact ⟨X',SO,h1,⟨c1,e,fz,m1,m2.trans h3,m3.trans h4⟩,h5.keep k λh0=>(h6 h0).1,h6⟩
  apart:=λf ρ v h g x ⟨i,hi,_,_,e⟩=>⟨⟨Z i,by rw[e];exact h.ext _ _ (y i hi)⟩,λd E q=>by obtain ⟨p,h1,h2⟩:=h.fr d E;grind⟩}
end
section
variable {S':Nat->Prop}{Xs:Nat->Nat}
theorem At.Pm (Z: ∀b,b<w.heap.size-> ¬L b->F.rd b)(hR: ∃c e fz u,w.heap[A]? =S (.cells c e fz)/\c[0]? =S (.slice u m m))(hX: ∀a,a<n->mB w (Xs a) m (Y a)/\(0<m-> ¬L (Xs a))):
  ∀k,k<=n-> ∀ {o:aU}{v:World},At E o v F j w->fT o->o[i]? =S (A,.cells)-> ∃ (d:aU)(p:World)(H:Nat->Nat),Ext o d/\At E d p F j w/\aA v p/\p.heap[i]? =v.heap[i]? /\(∀b,Dc v b->p.heap[b]? =v.heap[b]?)/\ ∀a,a<k->d[H a]? =S (Xs a,.cells)/\dy p (H a) m (Y a):=by
 intro k;induction k with
 | zero=>exact λ_ o v r _ _=>⟨o,v,λ_=>0,.refl _,r,.refl _,R,λ_ _=>rfl,λa P=>absurd P (Nat.not_lt_zero _)⟩
 | succ k ih=>
  intro hk o v r x s;obtain ⟨d,p,H,I,g,k1,o1,d1,h1⟩:=ih YP r x s;obtain ⟨Q,hs⟩:=hX k YP;obtain ⟨_,c0,e0,f0,y,a0,K⟩:=id Q;obtain ⟨M,v2,b,N,z,T,V,_,W,h2⟩:=g.take Q (x.ext I) λh0=>Z _ (aG y) (hs h0);have B:i<p.heap.size:=by obtain ⟨c,e,f,c',f',l,_⟩:=g.bQ.cells i A (I _ _ s);exact aG l
  have O:i≠b\/m=0:=by
   rcases Nat.eq_zero_or_pos m with h | h
   ·omega
   ·refine .inl λe=> ?_;have t:=N _ _ (I _ _ s);rw[e,V]at t;simp only[N7,Prod.mk.injEq,and_true]at t;obtain ⟨c,e3,f3,u,l,C⟩:=hR;rw[<-t,y]at l;cases l;obtain ⟨u1,J,p2⟩:=K 0 h;rw[C]at J;cases J;obtain ⟨_,_,hh,_⟩:=p2;cases hh
  refine ⟨M,v2,λa=>if a=k then b else H a,I.trans N,z,k1.trans T,(W i B (.inl O)).trans o1,λX D=> ?_,λa P=> ?_⟩
  ·have q:=d1 X D;obtain ⟨c,e,f,l,C⟩:=D;exact (W X YS (.inr ⟨c,e,f,q.trans l,C⟩)).trans q
  by_cases G:a=k
  ·subst G;dsimp only;rw[if_pos R];exact ⟨V,h2⟩
  ·dsimp only;rw[if_neg G];obtain ⟨l,C⟩:=h1 a YP;exact ⟨N _ _ l,λa1 hj=>by obtain ⟨u,J,p2⟩:=C a1 hj;exact ⟨u,T.2 _ _ J,p2⟩⟩
theorem At.answers(D:At E e v F j w)(G:fT e)(q:e[i]? =some (A,.cells))(H: ∃h f,v.heap[i]? =some (.cells #[] h f))(hF: ∀b,b<w.heap.size-> ¬S' b->F.rd b)(I: ¬S' A)(hn:0<n)
  (hX: ∀d,d<n->(∃c h J,w.heap[A]? =some (.cells c h J)/\c.size=n/\c[d]? =some (R7 (some ⟨Xs d,0,none⟩) m m))/\mB w (Xs d) m (Y d)/\(0<m-> ¬S' (Xs d))):
  ∃ (l:aU)(r:World)(o:Nat->Nat),Ext e l/\At E l r F j w/\aA v r/\(∀b,Dc v b->r.heap[b]? =v.heap[b]?)/\ ∀d,d<n->r.cell? ⟨i,d,none⟩=some (R7 (some ⟨o d,0,none⟩) m m)/\l[o d]? =some (Xs d,.cells)/\dy r (o d) m (Y d):=by
 obtain ⟨⟨K,h,J,L,M,N⟩,_⟩:=hX 0 hn;have O: ∀d,d<n->K[d]? =some (R7 (some ⟨Xs d,0,none⟩) m m):=YS;obtain ⟨s,t,o,P,z,k1,o1,d1,Q⟩:=At.Pm (Y:=Y) (Xs:=Xs) hF ⟨K,h,J,_,L,N⟩ (λd C=>(hX d C).2) n (Nat.le_refl _) D G q;obtain ⟨e0,f0,k⟩:=H;rw[k]at o1;let c:=((N2 n).map λg=>Value.slice (some ⟨o g,0,none⟩) m m).toArray;have T: ∀g,g<n->c[g]? =some (R7 (some ⟨o g,0,none⟩) m m):=λg p=>by simp[c,p]
 have V:aB s c K:=by
  refine ⟨YS,λg x y hx W=> ?_⟩;have p:g<n:=by rw[<-M];exact aG W
  rw[T g p]at hx;rw[O g p]at W;cases hx;cases W;exact .slice m m ⟨(Q g p).1,R,R⟩
 have X:=hF A (aG L) I;have B:aA t {t with heap:=t.heap.setIfInBounds i (.cells c h (0,c.size))}:=by
  refine ⟨YR,λa u ha=> ?_⟩;by_cases a0:a.block=i
  ·exfalso;unfold World.cell? at ha;simp_all
  ·rw[World.cell?_of_block (w:=t) YS];exact ha
 refine ⟨s,_,o,P,z.kJ (P _ _ q) L V X,k1.trans B,λb0 Z=> ?_,λd C=>⟨?_,(Q d C).1,λg p=> ?_⟩⟩
 ·have a1:i≠b0:=λh=>by obtain ⟨c1,P,f1,q1,q2⟩:=Z;rw[<-h,k]at q1;cases q1;simp at q2
  grind
 ·unfold World.cell?;show (match (t.heap.setIfInBounds i (.cells c h (0,c.size)))[i]? with | some (.cells c _ _)=>_ | _=>none)=_;rw[J1,if_pos R,if_pos (aG o1)];grind
 ·obtain ⟨u,p1,p2⟩:=(Q d C).2 g p;exact ⟨u,B.2 _ _ p1,p2⟩
end
def nU (z:Nat->C2):Nat->C2
 | 0=>(lf 0,lf 0)
 | k + 1=>xp (nU z k) (z k)
theorem pV(h:Still w v):ar w v:=⟨(h 0).size,λb _=>h.block b⟩
theorem OF(d:w.cell? ⟨m,0,none⟩=S (R7 (S ⟨A,J,none⟩) n W))(f:w.cell? ⟨A,J + i,none⟩=S (R3 R4 N V))(g:i<n)(a:n<=1000000):
  R0 Try.prog 71 #[R5 R6 i,R8 (S ⟨m,0,none⟩)] w λe b=>e= .returned (R3 R4 N V)/\b=w:=by
 have c:(i:Int)<(n:Int):=YP;go_enter Try.func71,Try.ntmps71
 go_wp2
 go_ret
 simp
theorem sS(y:w.cell? ⟨m,0,none⟩=S (.slice b n A))(r:bj w (.slice b n A) n X)(z:n<=1000000):
  R0 Try.prog 70 #[R5 R6 n,.func (.func 71) #[] #[R8 (S ⟨m,0,none⟩)]] w λe t=> ∃u,e= .returned u/\aS u (nU X n)/\ar w t:=by
 have B:=au r;clear r;go_enter Try.func70,Try.ntmps70
 go_wp2
 go_loopw [8,5] (λi s wr=> ∃k:Nat,k<=n/\i= R5 R6 k/\aS s (nU X k)/\ar w wr) (λi _ _=>n - (intOf i).toNat)
 case atStart=>exact ⟨0,Nat.zero_le _,R,aS.of 0 0 YQ YQ,⟨Nat.le_refl _,λ_ _=>rfl⟩⟩
 case round=>
  obtain ⟨k,G,rfl,d,a⟩:=hrel;by_cases f:k<n
  ·have g:(k:Int)<(n:Int):=by omega
   obtain ⟨C,H,e,j⟩:=ae B;simp only[R1]at e;obtain ⟨rfl,_,rfl⟩:=e;obtain ⟨I,D,u,rfl,_,v,l⟩:=j k f;obtain ⟨x,J,rfl,_⟩:=id l;obtain ⟨p,E,rfl,_⟩:=id d;have F:=au (OF (i:=k) (a.cell y) (a.cell v) f z);obtain ⟨q,K,L,h,c⟩:=Pl .add (.inl R) d l 26 wr;obtain ⟨M,N,rfl,_⟩:=id h;have o:=au (And.intro h (And.intro c (And.intro a j)));clear d a j v l h c;go_wp2_with (go_at_call 71;refine (ae F).mono ?_;rintro e t ⟨rfl,rfl⟩)
   go_roundw
   case rel=>obtain ⟨h,c,a,_⟩:=ae o;exact ⟨k + 1,YP,by go_num,h,a.trans (pV c)⟩
   case measure=>simp[intOf];omega
  ·have:k=n:=by omega
   subst this;have g: ¬ ((k:Int)<(k:Int)):=YP;obtain ⟨p,E,rfl,_⟩:=id d;have o:=au (And.intro d a);clear d a;go_wp2
   go_ret
   exact ⟨_,R,ae o⟩
theorem Eo(c:bj w (.slice b n m) n X)(h:n<=1000000):
  R0 Try.prog 42 #[.slice b n m] w λe d=> ∃u,e= .returned u/\aS u (nU X n)/\ar w d:=by
 have f:(w.alloc (.cells #[.slice b n m] 24)).cell? ⟨w.heap.size,0,none⟩=some (.slice b n m):=by unfold L9;show (match (w.heap.push _)[w.heap.size]? with | some (.cells m _ _)=>_ | _=>none)=_;simp
 have i:=au (sS f (c.av (ar.alloc w _).av) h);have j:=au f;clear c;go_enter Try.func42,Try.ntmps42
 go_wp2_with (go_at_call 70;refine (ae i).mono ?_;rintro e d ⟨u,rfl,g,a⟩;obtain ⟨p,k,rfl,_⟩:=id g)
 go_ret
 exact ⟨_,R,g,(ar.alloc w _).trans a⟩
noncomputable def km:K9:=match Try.f17.body with | some (.seq _ (.seq _ (.seq _ (.seq _ (.seq _ (.seq _ (.seq _ (.seq (.seq _ (.block _ c)) _))))))))=>c | _=> .skip
noncomputable def oU:K9:=match km with | .rangeFunc _ _ _ (.block _ (.seq _ c))=>c | _=> .skip
noncomputable def jv:K9:=match oU with | .seq _ (.block _ (.loop c))=>c | _=> .skip
noncomputable def mA:K9:=match jv with | .seq _ (.seq _ (.seq (.block _ (.seq _ (.seq (.seq _ (.block _ (.loop c))) _))) _))=>c | _=> .skip
noncomputable def Ka:Array Q0:=match mA with | .seq _ (.seq _ (.seq (.block _ (.seq _ (.region _ o _))) _))=>o | _=> #[]
noncomputable def Kc:Array Q0:=match jv with | .seq _ (.seq _ (.seq (.block _ (.seq _ (.seq _ (.region _ o _)))) _))=>o | _=> #[]
theorem eH {x:Array J8}{p:Nat->Prop}(c:x.size=n)(d:y.size=n)(h: ∀k,p k->J2 ⟨y,[]⟩ (.tmp k)=J2 ⟨x,[]⟩ (.tmp k)): ∀k,p k->y[k]? =x[k]? :=λk a=>by
 by_cases b:k<n
 ·have e:y.getD k U=x.getD k U:=h k a;rw[J3,J3,J7 YP,J7 YP]at e;rw[J7 YP,J7 YP];exact congrArg S e
 grind
theorem zG (b n c k:Nat)(w:World)(h:k<n)(a:n<=1000000):(N0 24 (R7 (S ⟨b,0,none⟩) n c) (R5 R6 k)).run Try.prog w= .ok (R8 (S ⟨b,k,none⟩)) w:=by have d:(k:Int)<(n:Int):=YP;go_simp
section
variable {a:Act}
theorem IU{b:Array P0}(c:o.op= .call {callee:= .value (.func 42),args:= #[x],argTypes:=b})(g:a.eval x=u)(d:R0 Try.prog 42 #[u] w λe f=> ∃v,e= .returned v/\t v f):bD Try.prog o a w t:=by
 refine .inr (.inr ⟨42,#[a.eval x],?_,?_⟩)
 ·clear d;simp[J4,c];go_simp
 grind
theorem Gp{y:K1}{z:J8}(a:o.op= .store 24 x y)(c:d x= .pointer (S Q))(e:d y= .slice b n m)(f:w.cell? Q=S z)(g:w.frozen? Q=false):(J4 d o).run Try.prog w= .ok .skip (w.setCell Q (.slice b n m)):=by unfold J4;simp only[a,c,e];go_simp
end
def Sn (a n m b i t p c:Nat):Nat->J8->Prop
 | 62,v=>v= R7 (S ⟨a,0,none⟩) n n
 | 63,v=>v= R5 R6 i
 | 64,v=>v= R7 (S ⟨b,0,none⟩) m m
 | 65,v=>v= R5 R6 t
 | 66,v=>v= R8 (S ⟨b,t,none⟩)
 | 67,v=>v= R3 R4 p c
 | 68,v=>v= R8 (S ⟨a,i,none⟩)
 | _,_=>True
def Qc (b i p c:Nat)(v:World)(a:Array Bool)(_:Act)(w:World):Prop:=(a.getD 7 false=false->w.heap=v.heap)/\(a.getD 7 false=true->w.heap=(v.setCell ⟨b,i,none⟩ (R3 R4 p c)).heap)
theorem Qc.same {p:Nat}{b:Array Bool}{a c:Act}(h:Qc n i p m v b a w)(k:Nat)(e:k≠7):Qc n i p m v (b.setIfInBounds k true) c w:=⟨λd=>h.1 (by simp_all),λd=>h.2 (by simp_all)⟩
theorem OW {E:Nat}{z:Value}(g:y.size=77)(s:y[12]? =S (ptr E))(t:y[15]? =S (R5 R6 i))(w:y[16]? =S (R7 (S ⟨J,0,none⟩) m m))(x:y[14]? =S (R5 R6 W))
  (K:v.cell? ⟨E,0,none⟩=S (R7 (S ⟨A,0,none⟩) n n))(L:v.cell? ⟨J,W,none⟩=S (R3 R4 N V))(M:v.cell? ⟨A,i,none⟩=S z)(F:v.frozen? ⟨A,i,none⟩=false)(O:i<n)(P:W<m)(Z:n<=1000)(Q:m<=1000000):
  (O3 18 Ka true).wp Try.prog (λe a T=>e= .normal/\a.defers= []/\(a.tmps.size=77/\(∀k:Nat,k<62\/68<k->a.tmps[k]? =y[k]?)/\T.heap=(v.setCell ⟨A,i,none⟩ (R3 R4 N V)).heap)) ⟨y,[]⟩ v:=by
 have q:Ka=Ka:=rfl;conv at q=>rhs;unfold Ka mA jv oU km;simp only[Try.f17]
 rw[q];refine cv (Sn A n m J i W N V) (Qc A i N V v) Zs Zs Zs 77 Zs g ?_ ?_ ?_
 ·exact ⟨λ_=>rfl,λh=>by simp at h⟩
 ·intro listed G H k o c I l B f;have X:k<8:=by simpa using (K7.1 I).1
  have b:=c.world;have C: ∀ {a:Addr}{u:Value},listed.getD 7 false=false->v.cell? a=S u->H.cell? a=S u:=λh Y=>(aA.heap (b.1 h)).2 _ _ Y;rcases (by omega:k=0\/k=1\/k=2\/k=3\/k=4\/k=5\/k=6\/k=7)with rfl | rfl | rfl | rfl | rfl | rfl | rfl | rfl
  all_goals obtain rfl:=L2 I
  ·have p:listed.getD 7 false=false:=by
    cases D:listed.getD 7 false with
    | false=>rfl
    | true=>have:=c.closed 7 _ R D ⟨0,.phase⟩ YR R;grind
   exact bZ R ((c.base 12 Zs).trans (ay s)) (gq (C p K)) ⟨aj R R,b.same 0 YP⟩
  ·exact aJ R ((c.base 15 Zs).trans (ay t)) ⟨aj R R,b.same 1 YP⟩
  ·exact aJ R ((c.base 16 Zs).trans (ay w)) ⟨aj R R,b.same 2 YP⟩
  ·exact aJ R ((c.base 14 Zs).trans (ay x)) ⟨aj R R,b.same 3 YP⟩
  ·exact cN R (c.slot 2 _ 64 R R (f ⟨2,.data⟩ YR R)) (c.slot 3 _ 65 R R (f ⟨3,.data⟩ YR R)) (zG _ _ _ _ _ P Q) ⟨aj R R,b.same 4 YP⟩
  ·have p:listed.getD 7 false=false:=by
    cases D:listed.getD 7 false with
    | false=>rfl
    | true=>have:=c.closed 7 _ R D ⟨5,.data⟩ YR R;grind
   exact bZ R (c.slot 4 _ 66 R R (f ⟨4,.data⟩ YR R)) (mQ (C p L)) ⟨aj R R,b.same 5 YP⟩
  ·exact cN R (c.slot 0 _ 62 R R (f ⟨0,.data⟩ YR R)) (c.slot 1 _ 63 R R (f ⟨1,.data⟩ YR R)) (zG _ _ _ _ _ O YP) ⟨aj R R,b.same 6 YP⟩
  ·have p:=cz B l YQ;refine ij (wM (z:=z) R (c.slot 6 _ 68 R R (f ⟨6,.data⟩ YR R)) (c.slot 5 _ 67 R R (f ⟨5,.data⟩ YR R)) (C p M) ?_) ⟨(λd h=>nomatch h),λh=> ?_,λ_=> ?_⟩
   ·unfold L8 at F ⊢;rw[b.1 p];exact F
   ·rw[bS l YQ]at h;cases h
   ·apply N3;intro j;rw[heap_set,heap_set,b.1 p]
 ·intro listed G H c r;have b:=c.world;refine ⟨R,c.defers,c.size.trans g,?_,b.2 (r 7 YQ)⟩;have f:=c.defers;obtain ⟨tm,df⟩:=G;dsimp only at f;subst f;exact eH g (c.size.trans g) λk hk=>c.base k YT
def v20 (a n g k m:Nat)(z:C2):Nat->J8->Prop
 | 70,v=>v= R7 (S ⟨g,0,none⟩) k m
 | 71,v=>v= R7 (S ⟨a,0,none⟩) n n
 | 72,v=>aS v z
 | 74,v=>v= R7 (S ⟨g,0,none⟩) (k + 1) m
 | _,_=>True
structure SF (g k m bM:Nat)(z:C2)(Y:Nat->C2)(v:World)(listed:Array Bool)(ac:Act)(w:World):Prop where
 a:listed.getD 4 false=false->ar v w
 b:listed.getD 3 false=true-> ∃b p p',ac.eval (.tmp 73)= R7 (S ⟨b,0,none⟩) 1 1/\(listed.getD 4 false=false->w.cell? ⟨b,0,none⟩=S (R3 R4 p p'))/\aS (R3 R4 p p') z
 c:listed.getD 4 false=true->listed.getD 5 false=false->GB v w g/\iB w g (k + 1) m Y
 d:listed.getD 5 false=true-> ∃w4,GB v w4 g/\iB w4 g (k + 1) m Y/\w.heap=(w4.setCell ⟨bM,0,none⟩ (R7 (S ⟨g,0,none⟩) (k + 1) m)).heap
theorem OX{f:Nat->C2}(q:y.size=77)(E:y[10]? =S (ptr W))(Z:y[12]? =S (ptr N))(hR:v.cell? ⟨N,0,none⟩=S (R7 (S ⟨A,0,none⟩) n n))(hM:v.cell? ⟨W,0,none⟩=S (R7 (S ⟨i,0,none⟩) J m))(F:v.frozen? ⟨W,0,none⟩=false)(hl:bj v (R7 (S ⟨A,0,none⟩) n n) n f)(ho:iB v i J m X)(hY:X J=nU f n)(hk:J<m)(hn:n<=1000)(G:i≠W):
  (O3 20 Kc true).wp Try.prog (λe a w'=>e= .normal/\a.defers= []/\(a.tmps.size=77/\(∀j:Nat,j<70\/74<j->a.tmps[j]? =y[j]?)/\ ∃w4,GB v w4 i/\iB w4 i (J + 1) m X/\w'.heap=(w4.setCell ⟨W,0,none⟩ (R7 (S ⟨i,0,none⟩) (J + 1) m)).heap)) ⟨y,[]⟩ v:=by
 have H:Kc=Kc:=rfl;conv at H=>rhs;unfold Kc jv oU km;simp only[Try.f17]
 rw[H];refine cv (v20 A n i J m (nU f n)) (SF i J m W (nU f n) X v) Zs Zs Zs 77 Zs q ?_ ?_ ?_
 ·exact ⟨λ_=>⟨Nat.le_refl _,λ_ _=>rfl⟩,λh=>by simp at h,λh=>by simp at h,λh=>by simp at h⟩
 ·intro listed Q T s o g I w a0 x;have a3:s<6:=by simpa using (K7.1 I).1
  have c:=g.world;have gs: ∀j,j≠s->(listed.setIfInBounds s true).getD j false=listed.getD j false:=λj hj=>M5 false (Ne.symm hj);have gi:=bS w YP;have V:=cz a0 w YP;rcases (by omega:s=0\/s=1\/s=2\/s=3\/s=4\/s=5)with rfl | rfl | rfl | rfl | rfl | rfl
  all_goals obtain rfl:=L2 I
  ·have k:listed.getD 4 false=false:=by
    cases B:listed.getD 4 false with
    | false=>rfl
    | true=>have:=g.closed 4 _ R B ⟨0,.data⟩ YR R;grind
   have K:listed.getD 5 false=false:=by
    cases t:listed.getD 5 false with
    | false=>rfl
    | true=>have:=g.closed 5 _ R t ⟨4,.data⟩ YR R;simp_all
   refine bZ R ((g.base 10 Zs).trans (ay E)) (gq ((c.a k).cell hM)) ⟨aj R R,λ_=>c.a k,λh=> ?_,λh=>YS,λh=>YS⟩;obtain ⟨b,p,C,D,Y,q3⟩:=c.b YS;exact ⟨b,p,C,(N9 YR).trans D,λ_=>Y k,q3⟩
  ·have l2:listed.getD 2 false=false:=by
    cases h2:listed.getD 2 false with
    | false=>rfl
    | true=>have:=g.closed 2 _ R h2 ⟨1,.data⟩ YR R;grind
   have l3:listed.getD 3 false=false:=by
    cases h3:listed.getD 3 false with
    | false=>rfl
    | true=>have:=g.closed 3 _ R h3 ⟨2,.data⟩ YR R;simp_all
   have k:listed.getD 4 false=false:=by
    cases B:listed.getD 4 false with
    | false=>rfl
    | true=>have:=g.closed 4 _ R B ⟨3,.data⟩ YR R;simp_all
   have K:listed.getD 5 false=false:=by
    cases t:listed.getD 5 false with
    | false=>rfl
    | true=>have:=g.closed 5 _ R t ⟨4,.data⟩ YR R;simp_all
   exact bZ R ((g.base 12 Zs).trans (ay Z)) (gq ((c.a k).cell hR)) ⟨aj R R,λ_=>c.a k,λh=>YS,λh=>YS,λh=>YS⟩
  ·have l3:listed.getD 3 false=false:=by
    cases h3:listed.getD 3 false with
    | false=>rfl
    | true=>have:=g.closed 3 _ R h3 ⟨2,.data⟩ YR R;grind
   have k:listed.getD 4 false=false:=by
    cases B:listed.getD 4 false with
    | false=>rfl
    | true=>have:=g.closed 4 _ R B ⟨3,.data⟩ YR R;simp_all
   have K:listed.getD 5 false=false:=by
    cases t:listed.getD 5 false with
    | false=>rfl
    | true=>have:=g.closed 5 _ R t ⟨4,.data⟩ YR R;simp_all
   refine IU R (g.slot 1 _ 71 R R (x ⟨1,.data⟩ YR R)) ((Eo (hl.av (c.a k).av) YP).mono ?_);rintro e w3 ⟨u,rfl,hu,l⟩;exact ⟨u,R,aj R hu,λ_=>(c.a k).trans l,λh=>YS,λh=>YS,λh=>YS⟩
  ·have k:listed.getD 4 false=false:=by
    cases B:listed.getD 4 false with
    | false=>rfl
    | true=>have:=g.closed 4 _ R B ⟨3,.data⟩ YR R;rw[V]at this;cases this
   have K:listed.getD 5 false=false:=by
    cases t:listed.getD 5 false with
    | false=>rfl
    | true=>have:=g.closed 5 _ R t ⟨4,.data⟩ YR R;rw[k]at this;cases this
   have L:aS (Q.eval (.tmp 72)) (nU f n):=g.slot 2 _ 72 R R (x ⟨2,.data⟩ YR R);obtain ⟨p,C,hp,_⟩:=id L;refine aL (qC R hp) ⟨aj R trivial,λ_=>(c.a k).trans (ar.alloc _ _),λ_=>⟨T.heap.size,p,C,?_,λ_=> ?_,by rw[<-hp];exact L⟩,λh=>(by rw[gs 4 YQ,k]at h;cases h),λh=>(by rw[gs 5 YQ,K]at h;cases h)⟩
   ·show (Q.put (S 73) (R7 (S ⟨T.heap.size,0,none⟩) 1 1)).eval (.tmp 73)=_;have:=g.size.trans q;simp[Act.put,J2,this]
   simp
  ·have K:listed.getD 5 false=false:=by
    cases t:listed.getD 5 false with
    | false=>rfl
    | true=>have:=g.closed 5 _ R t ⟨4,.data⟩ YR R;grind
   obtain ⟨b,p,C,D,Y,q3⟩:=c.b (x ⟨3,.data⟩ YR R);have l:=c.a V;obtain ⟨xs,M,a1⟩:=ho.low l;refine Ab R (g.slot 0 _ 70 R R (x ⟨0,.data⟩ YR R)) D M (Y V) hk λw3 r O=>⟨aj R R,λh=>YS,λh=>⟨b,p,C,(N9 YR).trans D,λh=>YS,q3⟩,λ_ _=>⟨(GB.of_low l).trans ⟨O.size,λb hb a4=>O.block b hb YS⟩,_,r,λj hj=> ?_⟩,λh=>YS⟩;have a2:xs.length=J:=by have:=M.1;omega
   by_cases e:j=J
   ·simp_all
   ·obtain ⟨u,r1,r2⟩:=a1 j YP;exact ⟨u,YS,r2⟩
  ·have k:=x ⟨4,.data⟩ YR R;obtain ⟨hg,r⟩:=c.c k V;refine ij (Gp (z:= R7 (S ⟨i,0,none⟩) J m) R ((g.base 10 Zs).trans (ay E)) (g.slot 4 _ 74 R R k) (hg.cell (Ne.symm G) hM) ?_) ⟨(λd h=>nomatch h),λh=>YS,λh=> ?_,λ_ h=>YS,λ_=>⟨T,hg,r,R⟩⟩
   ·unfold L8 at F ⊢;rw[hg.2 W (cy hM) (Ne.symm G)];exact F
   ·obtain ⟨b,p,C,D,Y,q3⟩:=c.b YS;exact ⟨b,p,C,D,λh=>YS,q3⟩
 ·intro listed Q T g P;have c:=g.world;refine ⟨R,g.defers,g.size.trans q,?_,c.d (P 5 YQ)⟩;have x:=g.defers;obtain ⟨tm,df⟩:=Q;dsimp only at x;subst x;exact eH q (g.size.trans q) λJ hk=>g.base J YT
theorem gK {a b:K9}:K3 P p (G (aR q f y (.code (.seq a b)::k)) l) w= .go (G (aR q f y (.code a:: .code b::k)) l) w #[]:=YV
theorem mY{a:K9}:K3 P p (G (aR q f y (.code (.block n a)::k)) l) w= .go (G (aR q f y (.code a:: .inBlock n::k)) l) w #[]:=YV
theorem EP {a:K9}:K3 P p (G (aR q f y (.code (.loop a)::k)) l) w= .go (G (aR q f y (.code a:: .inLoop a::k)) l) w #[]:=YV
theorem zZ {a:K9}:K3 P p (G (aR q f y (.inLoop a::k)) l) w= .go (G (aR q f y (.code a:: .inLoop a::k)) l) w #[]:=YV
theorem ld:K3 P p (G (aR q f y (.inBlock n::k)) l) w= .go (G (aR q f y k) l) w #[]:=YV
theorem q_skip:K3 P p (G (aR q f y (.code .skip::k)) l) w= .go (G (aR q f y k) l) w #[]:=YV
theorem q_exit{a:List Item}(h:exitTo n k=S a):K3 P p (G (aR q f y (.code (.exit n)::k)) l) w= .go (G (aR q f y a) l) w #[]:=by simp[G,aR,K3,L3,h]
theorem ES:K3 P p (G (aR q f y (.code (.region n r false)::k)) l) w= .go (G (aR q f y (.inRegion r (N2 r.size)::k)) l) w #[]:=YV
theorem LU:K3 P p (G (aR q f y (.inRegion r []::k)) l) w= .go (G (aR q f y k) l) w #[]:=YV
theorem q_cond{a b:K9}{t:Bool}(h:J2 ⟨y,[]⟩ x= .bool t):K3 P p (G (aR q f y (.code (.cond x a b)::k)) l) w= .go (G (aR q f y (.code (if t then a else b)::k)) l) w #[]:=by
 have c:N5 (aR q f y (.code (.cond x a b)::k)) x= .bool t:=by cases x<;>exact h
 simp only[aR]at c;simp[G,aR,K3,L3,c]
theorem lC(h:y.size=77): ∃u:Nat->Value,y= #[u 0,u 1,u 2,u 3,u 4,u 5,u 6,u 7,u 8,u 9,u 10,u 11,u 12,u 13,u 14,u 15,u 16,u 17,u 18,u 19,u 20,u 21,u 22,u 23,u 24,u 25,u 26,u 27,u 28,u 29,u 30,u 31,u 32,u 33,u 34,u 35,u 36,u 37,u 38,u 39,u 40,u 41,u 42,u 43,u 44,u 45,u 46,u 47,u 48,u 49,u 50,u 51,u 52,u 53,u 54,u 55,u 56,u 57,u 58,u 59,u 60,u 61,u 62,u 63,u 64,u 65,u 66,u 67,u 68,u 69,u 70,u 71,u 72,u 73,u 74,u 75,u 76]/\ ∀ (i:Nat) v,y[i]? =S v->u i=v:=by obtain ⟨u,a,b⟩:=pT h;exact ⟨u,a,b⟩
structure GF (n bP bA Rl bR Rw g bM:Nat)(bs:Nat->Nat):Prop where
 p:bP≠Rw/\bP≠g/\bP≠bM
 a:bA≠Rw/\bA≠g/\bA≠bM
 r:Rl≠Rw/\Rl≠g/\Rl≠bM
 b:bR≠Rw/\bR≠g/\bR≠bM
 s: ∀i,i<n->bs i≠Rw/\bs i≠g/\bs i≠bM
 o:Rw≠g/\Rw≠bM/\g≠bM
def Kp (c g d:Nat)(v a:World):Prop:=v.heap.size<=a.heap.size/\ ∀b,b<v.heap.size->b≠c->b≠g->b≠d->a.heap[b]? =v.heap[b]?
theorem Kp.refl {g:Nat}(v:World):Kp n g m v v:=⟨L4 _,λ_ _ _ _ _=>rfl⟩
theorem Kp.of{v':World}(h:ar v v'):Kp n m A v v':=⟨h.1,λb a _ _ _=>h.2 b a⟩
theorem Kp.trans {d g bM:Nat}{a b c:World}(h:Kp d g bM a b)(k:Kp d g bM b c):Kp d g bM a c:=⟨M4 h.1 k.1,λx e f i j=>(k.2 x (J9 e h.1) f i j).trans (h.2 x e f i j)⟩
theorem Kp.cell {g bM:Nat}{c:World}(h:Kp n g bM v c){a:O4}(b:a.block≠n/\a.block≠g/\a.block≠bM)(d:v.cell? a=S u):c.cell? a=S u:=by rw[M9 (w:=v) (h.2 _ (cy d) b.1 b.2.1 b.2.2)];exact d
structure wZ (v:World)(n m cp bP bA Rl bR Rw:Nat)(ad:Option O4)(bs:Nat->Nat)(Y:Nat->Nat->C2):Prop where
 pc:v.cell? ⟨bP,0,none⟩=S (.slice ad m cp)
 an:v.cell? ⟨bA,0,none⟩=S (R7 (S ⟨Rl,0,none⟩) n n)
 MP: ∀i,i<n->v.cell? ⟨Rl,i,none⟩=S (R7 (S ⟨bs i,0,none⟩) m m)
 rows: ∀i,i<n->dy v (bs i) m (Y i)
 rw:v.cell? ⟨bR,0,none⟩=S (R7 (S ⟨Rw,0,none⟩) n n)
theorem wZ.kp {v':World}{g e:Nat}(a:GF n i J W N V g e B)(h:wZ v n m A i J W N V b B Y)(k:Kp V g e v v'):wZ v' n m A i J W N V b B Y:=⟨k.cell a.p h.pc,k.cell a.a h.an,λc d=>k.cell a.r (h.MP c d),λc d j f=>by obtain ⟨u,l,o⟩:=h.rows c d j f;exact ⟨u,k.cell (a.s c d) l,o⟩,k.cell a.b h.rw⟩
def lI (v:World)(a n i:Nat)(f:Nat->C2):Prop:= ∃c,v.heap[a]? =S (.cells c 26 (0,0))/\c.size=n/\ ∀j,j<i-> ∃u,c[j]? =S u/\aS u (f j)
theorem lI.low {v':World}{f:Nat->C2}(h:lI v m n i f)(e:v'.heap[m]? =v.heap[m]?):lI v' m n i f:=by obtain ⟨c,a,b⟩:=h;exact ⟨c,e.trans a,b⟩
structure ot (v:World)(g k m bM:Nat)(Z:Nat->C2):Prop where
 c:v.cell? ⟨bM,0,none⟩=S (R7 (S ⟨g,0,none⟩) k m)
 f:v.frozen? ⟨bM,0,none⟩=false
 o:iB v g k m Z
theorem ot.low {v':World}{g k:Nat}{Z:Nat->C2}(h:ot v g k m n Z)(a:v'.heap[n]? =v.heap[n]?)(i:v'.heap[g]? =v.heap[g]?):ot v' g k m n Z:=by
 obtain ⟨c,b,d⟩:=h.o;refine ⟨by have:=h.c;unfold L9 at this ⊢;rw[a];exact this,by have:=h.f;unfold L8 at this ⊢;rw[a];exact this,c,⟨b.1,?_⟩,d⟩;rcases b.2 with h | ⟨j,e,f,l,o,q3,p⟩
 ·exact .inl h
 grind
structure XI (x:Array J8)(n m k i bM bA bR bP Rl:Nat):Prop where
 sz:x.size=77
 oy:x[10]? =S (ptr bM)
 eX:x[11]? =S (ptr bA)
 fQ:x[12]? =S (ptr bR)
 fS:x[13]? =S (ptr bP)
 gN:x[14]? =S (R5 R6 k)
 MY:x[51]? =S (R5 R6 m)
 MZ:x[52]? =S (R5 R6 k)
 Sd:x[55]? =S (R7 (S ⟨Rl,0,none⟩) n n)
 Se:x[56]? =S (R5 R6 n)
 Sf:x[57]? =S (R5 R6 i)
section
variable {bk:Nat->Option Obj}{kk:List Item}{iS:aU}{vb:World}{g bM k:Nat}{Z:Nat->C2}
theorem DM (hs:GF n i J W N V g bM B)(hn:n<=1000)(hm:m<=1000000)(hk:k<m)
  (K: ∀X v F w x y,At (E0 C) X v F (vB bk) w->Ext iS X->Kp V g bM vb v->wZ v n m A i J W N V b B Y->ot v g k m bM Z->lI v V n n (λj=>Y j k)->XI x n m k n bM J N i W->aB X x y->cO a C F (G (aR q 17 y kk) l) w):
  ∀ (c9 d:Nat)(X:aU)(v:World)(F:aq)(w:World)(x y:Array Value),d + c9=n->At (E0 C) X v F (vB bk) w->Ext iS X->Kp V g bM vb v->wZ v n m A i J W N V b B Y->ot v g k m bM Z->lI v V n d (λj=>Y j k)->XI x n m k d bM J N i W->aB X x y->
   cO a C F (G (aR q 17 y (.code mA:: .inLoop mA:: .inBlock 4::kk)) l) w:=by
 intro c9;induction c9 with
 | zero=>
  intro d X v F w x y hq c hE z hM hO hR o hv;have M:d=n:=YP;subst M;have d7: ¬ ((d:Int)<(d:Int)):=YP;have I:mA=mA:=rfl;conv at I=>rhs;unfold mA jv oU km;simp only[Try.f17]
  rw[I];obtain ⟨u,hx,r⟩:=lC o.sz;rw[r 10 _ o.oy,r 11 _ o.eX,r 12 _ o.fQ,r 13 _ o.fS,r 14 _ o.gN,r 51 _ o.MY,r 52 _ o.MZ,r 55 _ o.Sd,r 56 _ o.Se,r 57 _ o.Sf]at hx;rw[hx]at hv;refine aa.go c YR (λ_=>gK) λw c=> ?_;refine aa.lY (Q:=λP v'=>P= #[u 0,u 1,u 2,u 3,u 4,u 5,u 6,u 7,u 8,u 9,ptr bM,ptr J,ptr N,ptr i,R5 R6 k,u 15,u 16,u 17,u 18,u 19,u 20,u 21,u 22,u 23,u 24,u 25,u 26,u 27,u 28,u 29,u 30,u 31,u 32,u 33,u 34,u 35,u 36,u 37,u 38,u 39,u 40,u 41,u 42,u 43,u 44,u 45,u 46,u 47,u 48,u 49,u 50,R5 R6 m,R5 R6 k,u 53,u 54,R7 (S ⟨W,0,none⟩) d d,R5 R6 d,R5 R6 d,.bool false,u 59,u 60,u 61,u 62,u 63,u 64,u 65,u 66,u 67,u 68,u 69,u 70,u 71,u 72,u 73,u 74,u 75,u 76]/\v'.heap=v.heap) bh ⟨_,Try.func17⟩ Zt Zs YU YU c hv (λtp=> ?_) ?_
  ·clear c hv hE z hM hO hR o r hx K;go_wp2
   rfl
  rintro b3 x2 y2 v2 w2 F2 a5 d0 ⟨rfl,t⟩ c D;refine aa.go c YR (λ_=>gK) λw c=> ?_;refine aa.go c YR (λ_=>q_cond (D.bool R)) λw c=> ?_;simp only[J6, ↓reduceIte];refine aa.go c YR (λ_=>q_exit rfl) λw c=> ?_;have L:=ar.heap t;exact K b3 v2 F2 w _ y2 c (hE.trans a5) (z.trans (.of L)) (hM.kp hs (.of L)) (hO.low (by rw[t]) (by rw[t])) (hR.low (by rw[t])) ⟨R,R,R,R,R,R,R,R,R,R,R⟩ D
 | succ c9 ih=>
  intro d X v F w x y hq c hE z hM hO hR o hv;have M:d<n:=YP;have d8:(d:Int)<(n:Int):=YP;obtain ⟨T,hT⟩: ∃T:Nat,T=d + 1:=⟨_,R⟩;have d9:IntKind.i64.wrap ((d:Int) + 1)=(T:Int):=Zw;have I:mA=mA:=rfl;have a6:Ka=Ka:=rfl;conv at I=>rhs;unfold mA jv oU km;simp only[Try.f17]
  conv at a6=>rhs;unfold Ka mA jv oU km;simp only[Try.f17]
  rw[I];obtain ⟨u,hx,r⟩:=lC o.sz;rw[r 10 _ o.oy,r 11 _ o.eX,r 12 _ o.fQ,r 13 _ o.fS,r 14 _ o.gN,r 51 _ o.MY,r 52 _ o.MZ,r 55 _ o.Sd,r 56 _ o.Se,r 57 _ o.Sf]at hx;rw[hx]at hv;refine aa.go c YR (λ_=>gK) λw c=> ?_;refine aa.lY (Q:=λP v'=>P= #[u 0,u 1,u 2,u 3,u 4,u 5,u 6,u 7,u 8,u 9,ptr bM,ptr J,ptr N,ptr i,R5 R6 k,u 15,u 16,u 17,u 18,u 19,u 20,u 21,u 22,u 23,u 24,u 25,u 26,u 27,u 28,u 29,u 30,u 31,u 32,u 33,u 34,u 35,u 36,u 37,u 38,u 39,u 40,u 41,u 42,u 43,u 44,u 45,u 46,u 47,u 48,u 49,u 50,R5 R6 m,R5 R6 k,u 53,u 54,R7 (S ⟨W,0,none⟩) n n,R5 R6 n,R5 R6 d,.bool true,u 59,u 60,u 61,u 62,u 63,u 64,u 65,u 66,u 67,u 68,u 69,u 70,u 71,u 72,u 73,u 74,u 75,u 76]/\v'.heap=v.heap) bh ⟨_,Try.func17⟩ Zt Zs YU YU c hv (λtp=> ?_) ?_
  ·clear c hv hE z hM hO hR o r hx K hT ih;go_wp2
   rfl
  rintro b3 x2 y2 v2 w2 F2 a5 d0 ⟨rfl,t⟩ c D;refine aa.go c YR (λ_=>gK) λw c=> ?_;refine aa.go c YR (λ_=>q_cond (D.bool R)) λw c=> ?_;simp only[if_true];refine aa.go c YR (λ_=>q_skip) λw c=> ?_;refine aa.go c YR (λ_=>gK) λw c=> ?_;refine aa.go c YR (λ_=>mY) λw c=> ?_;refine aa.go c YR (λ_=>gK) λw c=> ?_;refine aa.lY (Q:=λP v'=>P= #[u 0,u 1,u 2,u 3,u 4,u 5,u 6,u 7,u 8,u 9,ptr bM,ptr J,ptr N,ptr i,R5 R6 k,R5 R6 d,R7 (S ⟨B d,0,none⟩) m m,u 17,u 18,u 19,u 20,u 21,u 22,u 23,u 24,u 25,u 26,u 27,u 28,u 29,u 30,u 31,u 32,u 33,u 34,u 35,u 36,u 37,u 38,u 39,u 40,u 41,u 42,u 43,u 44,u 45,u 46,u 47,u 48,u 49,u 50,R5 R6 m,R5 R6 k,u 53,u 54,R7 (S ⟨W,0,none⟩) n n,R5 R6 n,R5 R6 d,.bool true,R5 R6 d,R8 (S ⟨W,d,none⟩),R7 (S ⟨B d,0,none⟩) m m,u 62,u 63,u 64,u 65,u 66,u 67,u 68,u 69,u 70,u 71,u 72,u 73,u 74,u 75,u 76]/\v'.heap=v2.heap) bh ⟨_,Try.func17⟩ Zt Zs YU YU c D (λtp=> ?_) ?_
  ·have k0:(aK v2 tp 0).cell? ⟨W,d,none⟩=S (R7 (S ⟨B d,0,none⟩) m m):=(aA.heap t).2 _ _ (hM.MP d M);clear c hv hE z hM hO hR o r hx K hT ih D t;go_wp2
   rfl
  rintro e0 x3 y3 v3 w3 F3 d1 e1 ⟨rfl,O⟩ c b4;have L:=(ar.heap t).trans (ar.heap O);have a0:=O.trans t;have a1:=hM.kp hs (.of L);have b5:=hO.low (by rw[a0]) (by rw[a0]);have d2:=hR.low (v':=v3) (by rw[a0]);obtain ⟨cw,a2,b6,b7⟩:=d2;obtain ⟨uu,b8,a7⟩:=a1.rows d M k hk;obtain ⟨p,p',rfl,_⟩:=id a7;obtain ⟨zz,b9⟩: ∃zz,cw[d]? =S zz:=⟨_,Array.getElem?_eq_getElem YP⟩;have c1:v3.cell? ⟨V,d,none⟩=S zz:=by unfold World.cell?;rw[a2];exact b9
  have c2:v3.frozen? ⟨V,d,none⟩=false:=by unfold World.frozen?;rw[a2];simp
  rw[<-a6];refine aa.lY (Q:=λP v'=>P.size=77/\(∀j:Nat,j<62\/68<j->P[j]? =(#[u 0,u 1,u 2,u 3,u 4,u 5,u 6,u 7,u 8,u 9,ptr bM,ptr J,ptr N,ptr i,R5 R6 k,R5 R6 d,R7 (S ⟨B d,0,none⟩) m m,u 17,u 18,u 19,u 20,u 21,u 22,u 23,u 24,u 25,u 26,u 27,u 28,u 29,u 30,u 31,u 32,u 33,u 34,u 35,u 36,u 37,u 38,u 39,u 40,u 41,u 42,u 43,u 44,u 45,u 46,u 47,u 48,u 49,u 50,R5 R6 m,R5 R6 k,u 53,u 54,R7 (S ⟨W,0,none⟩) n n,R5 R6 n,R5 R6 d,.bool true,R5 R6 d,R8 (S ⟨W,d,none⟩),R7 (S ⟨B d,0,none⟩) m m,u 62,u 63,u 64,u 65,u 66,u 67,u 68,u 69,u 70,u 71,u 72,u 73,u 74,u 75,u 76]:Array Value)[j]?)/\v'.heap=(v3.setCell ⟨V,d,none⟩ (R3 R4 p p')).heap) bh ⟨_,Try.func17⟩ Zt Zs YU YU c b4 (λtp=>OW (v:=aK v3 tp 0) R R R R R a1.rw b8 c1 c2 M hk hn hm) ?_;rintro e2 x4 y4 v4 w4 F4 d3 e3 ⟨c3,f,E⟩ c a8;have a3: ∀b2,b2≠V->v4.heap[b2]? =v3.heap[b2]? :=λb2 hb=>by rw[E,heap_set,if_neg (Ne.symm hb)]
  have a9:v4.heap.size=v3.heap.size:=by rw[E];simp[World.setCell]
  have c4:v4.heap[V]? =S (.cells (cw.setIfInBounds d (R3 R4 p p')) 26 (0,0)):=by rw[E,heap_set,if_pos R,a2];rfl
  have b0:Kp V g bM v3 v4:=⟨YP,λb2 _ h1 _ _=>a3 b2 h1⟩;have c5:=a1.kp hs b0;have c6:=b5.low (a3 _ (Ne.symm hs.o.2.1)) (a3 _ (Ne.symm hs.o.1));have c7:lI v4 V n (d + 1) (λj=>Y j k):=⟨_,c4,by simpa using b6,λj hj=>by
   by_cases e:j=d
   ·subst e;exact ⟨_,by rw[Array.getElem?_setIfInBounds,if_pos R,if_pos YP],a7⟩
   ·obtain ⟨u1,r1,r2⟩:=b7 j YP;exact ⟨u1,by rw[Array.getElem?_setIfInBounds,if_neg YP];exact r1,r2⟩⟩
  refine aa.go c YR (λ_=>ld) λw c=> ?_;obtain ⟨u4,b1,s⟩:=lC c3;rw[s 10 _ ((f 10 YP).trans R),s 11 _ ((f 11 YP).trans R),s 12 _ ((f 12 YP).trans R),s 13 _ ((f 13 YP).trans R),s 14 _ ((f 14 YP).trans R),s 51 _ ((f 51 YP).trans R),s 52 _ ((f 52 YP).trans R),s 55 _ ((f 55 YP).trans R),s 56 _ ((f 56 YP).trans R),s 57 _ ((f 57 YP).trans R)]at b1;rw[b1]at a8;refine aa.lY (Q:=λP v'=>P= #[u4 0,u4 1,u4 2,u4 3,u4 4,u4 5,u4 6,u4 7,u4 8,u4 9,ptr bM,ptr J,ptr N,ptr i,R5 R6 k,u4 15,u4 16,u4 17,u4 18,u4 19,u4 20,u4 21,u4 22,u4 23,u4 24,u4 25,u4 26,u4 27,u4 28,u4 29,u4 30,u4 31,u4 32,u4 33,u4 34,u4 35,u4 36,u4 37,u4 38,u4 39,u4 40,u4 41,u4 42,u4 43,u4 44,u4 45,u4 46,u4 47,u4 48,u4 49,u4 50,R5 R6 m,R5 R6 k,u4 53,u4 54,R7 (S ⟨W,0,none⟩) n n,R5 R6 n,R5 R6 T,u4 58,u4 59,u4 60,u4 61,u4 62,u4 63,u4 64,u4 65,u4 66,u4 67,u4 68,R5 R6 T,u4 70,u4 71,u4 72,u4 73,u4 74,u4 75,u4 76]/\v'.heap=v4.heap) bh ⟨_,Try.func17⟩ Zt Zs YU YU c a8 (λtp=> ?_) ?_
  ·clear c hv hE z hM hO hR o r hx K hT ih D b4 a8 t O a1 b5 a2 b6 b7 b8 a7 b9 c1 c2 f E a3 a9 c4 b0 c5 c6 c7 b1 s L a0;go_wp2
   rfl
  rintro d4 x5 y5 v5 w5 F5 d5 e4 ⟨rfl,H⟩ c d6;refine aa.go c YR (λ_=>zZ) λw c=> ?_;rw[a6,<-I];subst hT;have a4:=ar.heap H;exact ih (d + 1) d4 v5 F5 w _ y5 YP c ((((hE.trans a5).trans d1).trans d3).trans d5) (((z.trans (.of L)).trans b0).trans (.of a4)) (c5.kp hs (.of a4)) (c6.low (by rw[H]) (by rw[H])) (c7.low (by rw[H])) ⟨R,R,R,R,R,R,R,R,R,R,R⟩ d6
end
structure XO (x:Array J8)(m k bM bA bR bP:Nat):Prop where
 sz:x.size=77
 oy:x[10]? =S (ptr bM)
 eX:x[11]? =S (ptr bA)
 fQ:x[12]? =S (ptr bR)
 fS:x[13]? =S (ptr bP)
 MY:x[51]? =S (R5 R6 m)
 MZ:x[52]? =S (R5 R6 k)
theorem lI.list(h:lI v m n n X):bj v (R7 (S ⟨m,0,none⟩) n n) n X:=by obtain ⟨c,a,f,b⟩:=h;refine ⟨_,_,R,λj d=> ?_⟩;obtain ⟨u,g,e⟩:=b j d;exact ⟨m,0,u,R,aG a,by unfold L9;grind,e⟩
theorem lI.zero{f:Nat->C2}(h:lI v m n i f):lI v m n 0 X:=by obtain ⟨c,a,b,_⟩:=h;exact ⟨c,a,b,λj d=>absurd d (O5 _)⟩
section
variable {bk:Nat->Option Obj}{iS:aU}{vb:World}{g bM:Nat}{Z:Nat->C2}
theorem DN (hs:GF n i J W N V g bM B)(hn:n<=1000)(hm:m<=1000000)(hZ: ∀e,e<m->Z e=nU (λj=>Y j e) n)
  (K: ∀ρ v F w x y,At (E0 C) ρ v F (vB bk) w->Ext iS ρ->Kp V g bM vb v->ot v g m m bM Z->x.size=77->aB ρ x y->cO a C F (G (aR q 17 y k) l) w):
  ∀ (d4 e:Nat)(ρ:aU)(v:World)(F:aq)(w:World)(x y:Array Value),e + d4=m->At (E0 C) ρ v F (vB bk) w->Ext iS ρ->Kp V g bM vb v->wZ v n m A i J W N V b B Y->ot v g e m bM Z->lI v V n 0 (λ_=>(none,none))->XO x m e bM J N i->aB ρ x y->
   cO a C F (G (aR q 17 y (.code jv:: .inLoop jv:: .inBlock 2::k)) l) w:=by
 intro d4;induction d4 with
 | zero=>
  intro e ρ v F w x y hq d hE t hM hO hR r hv;have d5:e=m:=YP;subst d5;have e7: ¬ ((e:Int)<(e:Int)):=YP;have M:jv=jv:=rfl;conv at M=>rhs;unfold jv oU km;simp only[Try.f17]
  rw[M];obtain ⟨u,hx,s⟩:=lC r.sz;rw[s 10 _ r.oy,s 11 _ r.eX,s 12 _ r.fQ,s 13 _ r.fS,s 51 _ r.MY,s 52 _ r.MZ]at hx;rw[hx]at hv;refine aa.go d YR (λ_=>gK) λw d=> ?_;refine aa.lY (Q:=λO P=>O= #[u 0,u 1,u 2,u 3,u 4,u 5,u 6,u 7,u 8,u 9,ptr bM,ptr J,ptr N,ptr i,u 14,u 15,u 16,u 17,u 18,u 19,u 20,u 21,u 22,u 23,u 24,u 25,u 26,u 27,u 28,u 29,u 30,u 31,u 32,u 33,u 34,u 35,u 36,u 37,u 38,u 39,u 40,u 41,u 42,u 43,u 44,u 45,u 46,u 47,u 48,u 49,u 50,R5 R6 e,R5 R6 e,.bool false,u 54,u 55,u 56,u 57,u 58,u 59,u 60,u 61,u 62,u 63,u 64,u 65,u 66,u 67,u 68,u 69,u 70,u 71,u 72,u 73,u 74,u 75,u 76]/\P.heap=v.heap) bh ⟨_,Try.func17⟩ Zt Zs YU YU d hv (λtp=> ?_) ?_
  ·clear d hv hE t hM hO hR r s hx K;go_wp2
   rfl
  rintro c4 x2 y2 v2 w2 F2 b0 d6 ⟨rfl,z⟩ d D;refine aa.go d YR (λ_=>gK) λw d=> ?_;refine aa.go d YR (λ_=>q_cond (D.bool R)) λw d=> ?_;simp only[J6, ↓reduceIte];refine aa.go d YR (λ_=>q_exit rfl) λw d=> ?_;exact K c4 v2 F2 w _ y2 d (hE.trans b0) (t.trans (.of (ar.heap z))) (hO.low (by rw[z]) (by rw[z])) R D
 | succ d4 ih=>
  intro e ρ v F w x y hq d hE t hM hO hR r hv;have b1:e<m:=YP;have e8:(e:Int)<(m:Int):=YP;obtain ⟨T,hT⟩: ∃T:Nat,T=e + 1:=⟨_,R⟩;have e9:IntKind.i64.wrap ((e:Int) + 1)=(T:Int):=Zw;have M:jv=jv:=rfl;have eI:mA=mA:=rfl;have b2:Kc=Kc:=rfl;conv at M=>rhs;unfold jv oU km;simp only[Try.f17]
  conv at eI=>rhs;unfold mA jv oU km;simp only[Try.f17]
  conv at b2=>rhs;unfold Kc jv oU km;simp only[Try.f17]
  rw[M];obtain ⟨u,hx,s⟩:=lC r.sz;rw[s 10 _ r.oy,s 11 _ r.eX,s 12 _ r.fQ,s 13 _ r.fS,s 51 _ r.MY,s 52 _ r.MZ]at hx;rw[hx]at hv;refine aa.go d YR (λ_=>gK) λw d=> ?_;refine aa.lY (Q:=λO P=>O= #[u 0,u 1,u 2,u 3,u 4,u 5,u 6,u 7,u 8,u 9,ptr bM,ptr J,ptr N,ptr i,u 14,u 15,u 16,u 17,u 18,u 19,u 20,u 21,u 22,u 23,u 24,u 25,u 26,u 27,u 28,u 29,u 30,u 31,u 32,u 33,u 34,u 35,u 36,u 37,u 38,u 39,u 40,u 41,u 42,u 43,u 44,u 45,u 46,u 47,u 48,u 49,u 50,R5 R6 m,R5 R6 e,.bool true,u 54,u 55,u 56,u 57,u 58,u 59,u 60,u 61,u 62,u 63,u 64,u 65,u 66,u 67,u 68,u 69,u 70,u 71,u 72,u 73,u 74,u 75,u 76]/\P.heap=v.heap) bh ⟨_,Try.func17⟩ Zt Zs YU YU d hv (λtp=> ?_) ?_
  ·clear d hv hE t hM hO hR r s hx K hT ih;go_wp2
   rfl
  rintro c4 x2 y2 v2 w2 F2 b0 d6 ⟨rfl,z⟩ d D;refine aa.go d YR (λ_=>gK) λw d=> ?_;refine aa.go d YR (λ_=>q_cond (D.bool R)) λw d=> ?_;simp only[if_true];refine aa.go d YR (λ_=>q_skip) λw d=> ?_;refine aa.go d YR (λ_=>gK) λw d=> ?_;refine aa.go d YR (λ_=>mY) λw d=> ?_;refine aa.go d YR (λ_=>gK) λw d=> ?_;refine aa.lY (Q:=λO P=>O= #[u 0,u 1,u 2,u 3,u 4,u 5,u 6,u 7,u 8,u 9,ptr bM,ptr J,ptr N,ptr i,R5 R6 e,u 15,u 16,u 17,u 18,u 19,u 20,u 21,u 22,u 23,u 24,u 25,u 26,u 27,u 28,u 29,u 30,u 31,u 32,u 33,u 34,u 35,u 36,u 37,u 38,u 39,u 40,u 41,u 42,u 43,u 44,u 45,u 46,u 47,u 48,u 49,u 50,R5 R6 m,R5 R6 e,.bool true,R5 R6 e,u 55,u 56,u 57,u 58,u 59,u 60,u 61,u 62,u 63,u 64,u 65,u 66,u 67,u 68,u 69,u 70,u 71,u 72,u 73,u 74,u 75,u 76]/\P.heap=v2.heap) bh ⟨_,Try.func17⟩ Zt Zs YU YU d D (λtp=> ?_) ?_
  ·clear d hv hE t hM hO hR r s hx K hT ih D z;go_wp2
   rfl
  rintro f0 x3 y3 v3 w3 F3 d7 f1 ⟨rfl,X⟩ d b3;refine aa.go d YR (λ_=>gK) λw d=> ?_;refine aa.go d YR (λ_=>gK) λw d=> ?_;have a3:=X.trans z;refine aa.lY (Q:=λO P=>O= #[u 0,u 1,u 2,u 3,u 4,u 5,u 6,u 7,u 8,u 9,ptr bM,ptr J,ptr N,ptr i,R5 R6 e,u 15,u 16,u 17,u 18,u 19,u 20,u 21,u 22,u 23,u 24,u 25,u 26,u 27,u 28,u 29,u 30,u 31,u 32,u 33,u 34,u 35,u 36,u 37,u 38,u 39,u 40,u 41,u 42,u 43,u 44,u 45,u 46,u 47,u 48,u 49,u 50,R5 R6 m,R5 R6 e,.bool true,R5 R6 e,R7 (some ⟨W,0,none⟩) n n,R5 R6 n,R5 R6 (0:Nat),u 58,u 59,u 60,u 61,u 62,u 63,u 64,u 65,u 66,u 67,u 68,u 69,u 70,u 71,u 72,u 73,u 74,u 75,u 76]/\P.heap=v3.heap) bh ⟨_,Try.func17⟩ Zt Zs YU YU d b3 (λtp=> ?_) ?_
  ·have k0:(aK v3 tp 0).cell? ⟨J,0,none⟩=some (R7 (some ⟨W,0,none⟩) n n):=(aA.heap a3).2 _ _ hM.an;clear d hv hE t hM hO hR r s hx K hT ih D b3 z X a3;unfold ptr;go_wp2
   rfl
  rintro d8 x4 y4 v4 w4 F4 d9 f2 ⟨rfl,a5⟩ d c5;have a0:=a5.trans a3;have b4:=ar.heap a0;refine aa.go d YR (λ_=>mY) λw d=> ?_;refine aa.go d YR (λ_=>EP) λw d=> ?_;rw[<-eI,<-b2];refine DM (iS:=iS) (vb:=vb) (Y:=Y) (Z:=Z) hs hn hm b1 ?_ n 0 d8 v4 F4 w _ y4 YP d (((hE.trans b0).trans d7).trans d9) (t.trans (.of b4)) (hM.kp hs (.of b4)) (hO.low (by rw[a0]) (by rw[a0])) ((hR.low (by rw[a0])).zero) ⟨R,R,R,R,R,R,R,R,R,R,R⟩ c5;clear c5 b3 D d;intro f3 v5 F5 w x5 y5 d e0 a6 b5 E b6 p c6;refine aa.lY (Q:=λO P=>O.size=77/\(∀j:Nat,j<70\/74<j->O[j]? =x5[j]?)/\ ∃w4,GB v5 w4 g/\iB w4 g (e + 1) m Z/\P.heap=(w4.setCell ⟨bM,0,none⟩ (R7 (some ⟨g,0,none⟩) (e + 1) m)).heap) bh ⟨_,Try.func17⟩ Zt Zs YU YU d c6 (λtp=>OX (v:=aK v5 tp 0) (f:=λj=>Y j e) p.sz p.oy p.fQ b5.rw E.c E.f (b6.list.av (aA.heap R)) (E.o.low (ar.heap R)) (hZ e b1) b1 hn hs.o.2.2) ?_;rintro f4 x6 y6 v6 w6 F6 e1 f5 ⟨c7,o,z4,a1,a7,I⟩ d b7;have a4: ∀b8,b8≠bM->v6.heap[b8]? =z4.heap[b8]? :=λb8 hb=>by rw[I,heap_set,if_neg (Ne.symm hb)]
  have a2:v6.heap.size=z4.heap.size:=by rw[I];simp[World.setCell]
  have b9:Kp V g bM v5 v6:=⟨by rw[a2];exact a1.1,λb8 hb h1 h2 h3=>(a4 b8 h3).trans (a1.2 b8 hb h2)⟩;have c9:bM<v5.heap.size:=cy E.c;obtain ⟨cm,em,fm,c1,a8⟩: ∃cm em fm,v5.heap[bM]? =some (.cells cm em fm)/\0<cm.size:=by
   have:=E.c;unfold World.cell? at this;cases hh:v5.heap[bM]? with
   | none=>simp[hh]at this
   | some ob=>
    cases ob with
    | cells cm em fm=>refine ⟨cm,em,fm,R,?_⟩;simp[hh]at this;exact (Array.getElem?_eq_some_iff.1 this).1
    | _=>simp[hh]at this
  have d0:=(a1.2 bM c9 (Ne.symm hs.o.2.2)).trans c1;have c2:v6.heap[bM]? =some (.cells (cm.setIfInBounds 0 (R7 (some ⟨g,0,none⟩) (e + 1) m)) em fm):=by rw[I,heap_set,if_pos R,d0];rfl
  have d1:ot v6 g (e + 1) m bM Z:=by
   refine ⟨?_,?_,?_⟩
   ·unfold World.cell?;rw[c2];show (cm.setIfInBounds 0 _)[0]? =_;rw[Array.getElem?_setIfInBounds,if_pos R,if_pos a8]
   ·have:=E.f;unfold World.frozen? at this ⊢;rw[c1]at this;rw[c2];exact this
   ·obtain ⟨xs,h1,h2⟩:=a7;refine ⟨xs,⟨h1.1,?_⟩,h2⟩;rcases h1.2 with h | ⟨g1,e2,e3,q1,q2,q3,q4⟩
    ·omega
    ·refine .inr ⟨g1,e2,e3,q1,q2,?_,q4⟩;have:g1=g:=by simp at q1;exact q1.1.symm
     subst this;rw[a4 _ hs.o.2.2];exact q3
  have d2:=b5.kp hs b9;have d3:lI v6 V n 0 (λ_=>(none,none)):=by obtain ⟨c,h1,h2,_⟩:=b6;exact ⟨c,(a4 _ hs.o.2.1).trans ((a1.2 _ (aG h1) hs.o.1).trans h1),h2,λj hj=>absurd hj (Nat.not_lt_zero _)⟩
  refine aa.go d YR (λ_=>ld) λw d=> ?_;obtain ⟨u6,c3,H⟩:=lC c7;rw[H 10 _ ((o 10 YP).trans p.oy),H 11 _ ((o 11 YP).trans p.eX),H 12 _ ((o 12 YP).trans p.fQ),H 13 _ ((o 13 YP).trans p.fS),H 51 _ ((o 51 YP).trans p.MY),H 52 _ ((o 52 YP).trans p.MZ)]at c3;rw[c3]at b7;refine aa.lY (Q:=λO P=>O= #[u6 0,u6 1,u6 2,u6 3,u6 4,u6 5,u6 6,u6 7,u6 8,u6 9,ptr bM,ptr J,ptr N,ptr i,u6 14,u6 15,u6 16,u6 17,u6 18,u6 19,u6 20,u6 21,u6 22,u6 23,u6 24,u6 25,u6 26,u6 27,u6 28,u6 29,u6 30,u6 31,u6 32,u6 33,u6 34,u6 35,u6 36,u6 37,u6 38,u6 39,u6 40,u6 41,u6 42,u6 43,u6 44,u6 45,u6 46,u6 47,u6 48,u6 49,u6 50,R5 R6 m,R5 R6 T,u6 53,u6 54,u6 55,u6 56,u6 57,u6 58,u6 59,u6 60,u6 61,u6 62,u6 63,u6 64,u6 65,u6 66,u6 67,u6 68,u6 69,u6 70,u6 71,u6 72,u6 73,u6 74,R5 R6 T,u6 76]/\P.heap=v6.heap) bh ⟨_,Try.func17⟩ Zt Zs YU YU d b7 (λtp=> ?_) ?_
  ·clear d hv hE t hM hO hR r s hx K hT ih c6 b7 a6 b5 E b6 p o a1 a7 I a4 a2 b9 c1 a8 d0 c2 d1 d2 d3 c3 H z X a5 a3 a0 b4 c9;go_wp2
   rfl
  rintro e4 x7 y7 v7 w7 F7 e5 f6 ⟨rfl,L⟩ d e6;refine aa.go d YR (λ_=>zZ) λw d=> ?_;rw[eI,b2,<-M];subst hT;have a9:=ar.heap L;exact ih (e + 1) e4 v7 F7 w _ y7 YP d ((e0.trans e1).trans e5) ((a6.trans b9).trans (.of a9)) (d2.kp hs (.of a9)) (d1.low (by rw[L]) (by rw[L])) (d3.low (by rw[L])) ⟨R,R,R,R,R,R,R⟩ e6
end
noncomputable def ME:K9:=match Try.f17.body with | some c=>c | _=> .skip
noncomputable def CP:K9:=match Try.f17.body with | some (.seq _ (.seq _ (.seq _ (.seq _ (.seq _ (.seq _ (.seq _ c)))))))=>c | _=> .skip
theorem Pp (a b c:J8):(#[a,b,c] ++ J5 74 U:Array J8)= #[a,b,c,U,U,U,U,U,U,U,U,U,U,U,U,U,U,U,U,U,U,U,U,U,U,U,U,U,U,U,U,U,U,U,U,U,U,U,U,U,U,U,U,U,U,U,U,U,U,U,U,U,U,U,U,U,U,U,U,U,U,U,U,U,U,U,U,U,U,U,U,U,U,U,U,U,U]:=by simp
theorem Eh:(Try.prog.info? 24).map (λi=>(i.zero,i.size,i.bytes))=S (S (.slice none 0 0),1,24):=Zs
theorem rQ{e:P0}{b:List J8}(h:w.ownsRow m e 1 (R7 (S ⟨A,0,none⟩) n n) n b): ∃c,w.heap[A]? =S (.cells c e (0,0))/\c.size=n:=by
 rcases h.2 with ⟨a,_⟩ | ⟨g,d,f,a,_,q3,_,_,i,_⟩
 ·cases a
 grind
structure wX (v0 v:World)(W n m A bW b8 g bM Rl bA Rw bR:Nat)(ns B L:Nat->Nat)(Gn:Nat->C2)(sec:Nat->Nat->dM)(Z:Nat->C2):Prop where
 low:ar v0 v
 w:v.cell? ⟨bW,0,none⟩=S (R5 R6 W)
 wk:v.cell? ⟨b8,0,none⟩=S (R7 (S ⟨A,0,none⟩) n n)
 mo:ot v g 0 m bM Z
 an:v.cell? ⟨bA,0,none⟩=S (R7 (S ⟨Rl,0,none⟩) n n)
 rl: ∃c,v.heap[Rl]? =S (.cells c 24 (0,0))/\c.size=n
 rw:v.cell? ⟨bR,0,none⟩=S (R7 (S ⟨Rw,0,none⟩) n n)
 rr:lI v Rw n 0 (λ_=>(none,none))
 ord:v0.heap.size<=bW/\bW<A/\A<b8/\b8<g/\g<bM/\bM<Rl/\Rl<bA/\bA<Rw/\Rw<bR
 works: ∀i,i<n->v.cell? ⟨A,i,none⟩=S (R8 (S ⟨B i,0,none⟩))
 dp: ∀i,i<n->aF v (B i) (L i) (ns i) (Gn i) (sec i) aI
 new: ∀i,i<n->A<B i/\A<L i
 top: ∀i,i<n->B i<b8/\L i<b8
 lN: ∀i j,i<n->j<n->i≠j->L i≠L j
 mH: ∀i j,i<n->j<n->L i≠B j
section
variable {ns:Nat->Nat}{Z:Nat->C2}
theorem DK (hF:mq v A n B T H ns h X)(hm:m<=1000000)(hn:n<=1000)(h1:1<=W)(h2:W<=64)
  (hK: ∀d4 t F' w' x g0 o bW Y g bM Rl bA Rw bR d2 L,Ext e d4->At (E0 C) d4 t F' bO w'->wX v t W n m o bW Y g bM Rl bA Rw bR ns d2 L X h Z->x.size=77->x[1]? =S (.slice b m J)->x[5]? =S (ptr bW)->x[8]? =S (ptr Y)->x[10]? =S (ptr bM)->x[11]? =S (ptr bA)->x[12]? =S (ptr bR)->aB d4 x g0->cO a C F' (G (ak 17 g0 [.code CP]) l) w')
  (d:At (E0 C) e v F bO w)(hv:aB e #[R7 (S ⟨A,0,none⟩) n i,.slice b m J,R5 R6 W] y):
  cO a C F (G (ak 17 (y ++ J5 74 U) [.code ME]) l) w:=by
 have eB:ME=ME:=rfl;have eT:CP=CP:=rfl;conv at eB=>rhs;unfold ME;simp only[Try.f17]
 conv at eT=>rhs;unfold CP;simp only[Try.f17]
 rw[eB];have V:=hv.ei 74;rw[Pp]at V;refine aa.ah d λw d=> ?_;refine aa.ej (Q:=λx' t=>x'= #[R7 (S ⟨A,0,none⟩) n i,.slice b m J,R5 R6 W,U,U,R8 (S ⟨v.heap.size,0,none⟩),.slice none 0 0,R5 R6 0,U,U,U,U,U,U,U,U,U,U,U,U,U,U,U,U,U,U,U,U,U,U,U,U,U,U,U,U,U,U,U,U,U,U,U,U,U,U,U,U,U,U,U,U,U,U,U,U,U,U,U,U,U,U,U,U,U,U,U,U,U,U,U,U,U,U,U,U,U]/\t.heap=v.heap.push (.cells #[R5 R6 W] 3)) bh ⟨_,Try.func17⟩ Zt Zs YU YU d V (λtp=> ?_) ?_
 ·clear hF hK hv V;go_wp2
  exact ⟨R,R⟩
 rintro g1 x1 y1 v1 w1 F1 e8 g2 ⟨rfl,b6⟩ d b0;have f:=ar.push b6;have q:=Bx.new b6;have u:v1.heap.size=v.heap.size + 1:=by rw[b6];simp
 clear b6;refine aa.ah d λw d=> ?_;refine aa.ej (Q:=λx' t=>x'= #[R7 (S ⟨A,0,none⟩) n i,.slice b m J,R5 R6 W,U,U,R8 (S ⟨v.heap.size,0,none⟩),.slice none 0 0,R5 R6 0,U,U,U,U,U,U,U,U,U,R5 R6 W,.bool true,.bool false,U,U,U,U,U,U,U,U,U,U,U,U,U,U,U,U,U,U,U,U,U,U,U,U,U,U,U,U,U,U,U,U,U,U,U,U,U,U,U,U,U,U,U,U,U,U,U,U,U,U,U,U,U,U,U,U,U]/\t.heap=v1.heap) bh ⟨_,Try.func17⟩ Zt Zs YU YU d b0 (λtp=> ?_) ?_
 ·have Hf:=au (zA W h1 h2);have k0:(aK v1 tp 0).cell? ⟨v.heap.size,0,none⟩=S (R5 R6 W):=q.cell;clear hF hK hv V b0 f q u;go_wp2_with (go_at_call 23;refine (ae Hf _).mono ?_;rintro g3 w6 ⟨rfl,rfl⟩)
  rfl
 rintro g4 x2 y2 v2 w2 F2 e9 g5 ⟨rfl,r⟩ d b9;have k:=f.trans (ar.heap r);have N:=q.keep (ar.heap r);have O:v2.heap.size=v.heap.size + 1:=by rw[r];exact u
 refine aa.ah d λw d=> ?_;refine aa.ej (Q:=λx' t=> ∃o d2 L Y,x'= #[R7 (S ⟨A,0,none⟩) n i,.slice b m J,R5 R6 W,U,U,R8 (S ⟨v.heap.size,0,none⟩),.slice none 0 0,R5 R6 0,R8 (S ⟨Y,0,none⟩),R5 R6 0,U,U,U,U,U,U,U,R5 R6 W,.bool true,.bool false,.tuple #[R7 (S ⟨o,0,none⟩) n n,R5 R6 0],R7 (S ⟨A,0,none⟩) n i,.tuple #[R7 (S ⟨o,0,none⟩) n n,R5 R6 0],R7 (S ⟨o,0,none⟩) n n,R5 R6 0,U,U,U,U,U,U,U,U,U,U,U,U,U,U,U,U,U,U,U,U,U,U,U,U,U,U,U,U,U,U,U,U,U,U,U,U,U,U,U,U,U,U,U,U,U,U,U,U,U,U,U,U]/\Bx t Y (R7 (S ⟨o,0,none⟩) n n) 90/\ ∃z z':World,z.heap=v2.heap/\z'.heap.size=Y/\ar z' t/\AR z z' o n ns h X d2 L) bh ⟨_,Try.func17⟩ Zt Zs YU YU d b9 (λtp=> ?_) ?_
 ·have Hr:=au (qm (c:=i) (w:=aK v2 tp 0) (hF.av (k.av.trans (aA.heap R))) hn);clear hF hK hv V b0 f q u b9 k N O r;go_wp2_with (go_at_call 33;refine (ae Hr).mono ?_;rintro g3 w6 ⟨o,d2,L,rfl,f0⟩)
  exact ⟨o,d2,L,w6.heap.size,⟨R,R⟩,Bx.new R,aK v2 tp 0,R,w6,R,ar.alloc _ _,f0⟩
 rintro g6 x3 y3 v3 w3 F3 f1 g7 ⟨o,d2,L,Y,rfl,a0,z1,z2,D,a1,b1,M⟩ d c2;have b2:ar v2 z2:=by have p:=ar.ba M.low (Nat.le_refl _);exact ⟨by rw[<-D];exact p.1,λd5 hb=>by rw[<-D];exact p.2 d5 (by rw[D];exact hb)⟩
 have E:=(k.trans b2).trans b1;have a2:=(N.keep b2).keep b1;have c1:v.heap.size<o/\o<Y:=by have:=M.lt;rw[D,O,a1]at this;omega
 have a3:=λb3 hi=>b1.cell (M.cell b3 hi);have P:=λb3 hi=>(M.dp b3 hi).mv (λ_ _ hu=>b1.cell hu) (λ_=>b1.2 _ (M.dp b3 hi).lt.2.1) b1.1;have a4: ∀b3,b3<n->d2 b3<Y/\L b3<Y:=λb3 hi=>by obtain ⟨q1,q2,_⟩:=(M.dp b3 hi).lt;omega
 have a5:=M.new;have a6:=M.lN;have I:=M.mH;have c7:=Na a0;clear M b2 D a1 b1;refine aa.ah d λw d=> ?_;refine aa.ej (Q:=λx' t=>x'= #[R7 (S ⟨A,0,none⟩) n i,.slice b m J,R5 R6 W,U,U,R8 (S ⟨v.heap.size,0,none⟩),.slice none 0 0,R5 R6 0,R8 (S ⟨Y,0,none⟩),R5 R6 0,U,U,U,U,U,U,U,R5 R6 W,.bool true,.bool false,.tuple #[R7 (S ⟨o,0,none⟩) n n,R5 R6 0],R7 (S ⟨A,0,none⟩) n i,.tuple #[R7 (S ⟨o,0,none⟩) n n,R5 R6 0],R7 (S ⟨o,0,none⟩) n n,R5 R6 0,R5 R6 0,.bool false,U,U,U,U,U,U,U,U,U,U,U,U,U,U,U,U,U,U,U,U,U,U,U,U,U,U,U,U,U,U,U,U,U,U,U,U,U,U,U,U,U,U,U,U,U,U,U,U,U,U]/\t.heap=v3.heap) bh ⟨_,Try.func17⟩ Zt Zs YU YU d c2 (λtp=> ?_) ?_
 ·clear hF hK hv V b0 f q u b9 k N O r c2 E a2 c1 a3 P a4 a5 a6 I a0 c7;go_wp2
  rfl
 rintro g8 x4 y4 v4 w4 F4 f2 g9 ⟨rfl,b7⟩ d c9;have b4:=ar.heap b7;refine aa.ah d λw d=> ?_;refine aa.ej (Q:=λx' t=> ∃bM,x'= #[R7 (S ⟨A,0,none⟩) n i,.slice b m J,R5 R6 W,U,U,R8 (S ⟨v.heap.size,0,none⟩),.slice none 0 0,R5 R6 0,R8 (S ⟨Y,0,none⟩),R5 R6 0,R8 (S ⟨bM,0,none⟩),U,U,U,U,U,U,R5 R6 W,.bool true,.bool false,.tuple #[R7 (S ⟨o,0,none⟩) n n,R5 R6 0],R7 (S ⟨A,0,none⟩) n i,.tuple #[R7 (S ⟨o,0,none⟩) n n,R5 R6 0],R7 (S ⟨o,0,none⟩) n n,R5 R6 0,R5 R6 0,.bool false,U,.slice b m J,R5 R6 m,R7 (S ⟨v4.heap.size,0,none⟩) 0 m,U,U,U,U,U,U,U,U,U,U,U,U,U,U,U,U,U,U,U,U,U,U,U,U,U,U,U,U,U,U,U,U,U,U,U,U,U,U,U,U,U,U,U,U,U,U]/\v4.heap.size<bM/\ar v4 t/\Bx t bM (R7 (S ⟨v4.heap.size,0,none⟩) 0 m) 24/\iB t v4.heap.size 0 m Z) bh ⟨_,Try.func17⟩ Zt Zs YU YU d c9 (λtp=> ?_) ?_
 ·obtain ⟨i0,hi,c3,D,a1⟩:=M7 fY;clear hF hK hv V b0 f q u b9 k N O r c2 E a2 c1 a3 P a4 a5 a6 I a0 c7 c9 b7 b4;go_wp2_with (first
   | (refine wpList_make_own _ rfl _ _ 24 rfl 0 26 i0 (R3 R4 0 0) 1 Try.underlying24 hi c3 D .i64 .i64 _ m rfl rfl rfl (by rw[a1];omega) Zu (Nat.zero_le _) ?_;intro w3 s a7))
  have a8:ar v4 w3:=⟨a7.size,λd5 hb=>a7.block d5 hb YR⟩;have b5:v4.heap.size<w3.heap.size:=(dS s).2;exact ⟨w3.heap.size,⟨R,R⟩,b5,a8.trans (ar.alloc _ _),Bx.new R,iB.low (v:=w3) ⟨[],s,λj hj=>absurd hj (Nat.not_lt_zero _)⟩ (ar.alloc _ _)⟩
 rintro h0 x5 y5 v5 w5 F5 f3 h3 ⟨bM,rfl,d6,c4,a9,d7⟩ d d8;have d9:=Na a9;refine aa.ah d λw d=> ?_;refine aa.ej (Q:=λx' t=> ∃bA,x'= #[R7 (S ⟨A,0,none⟩) n i,.slice b m J,R5 R6 W,U,U,R8 (S ⟨v.heap.size,0,none⟩),.slice none 0 0,R5 R6 0,R8 (S ⟨Y,0,none⟩),R5 R6 0,R8 (S ⟨bM,0,none⟩),R8 (S ⟨bA,0,none⟩),U,U,U,U,U,R5 R6 W,.bool true,.bool false,.tuple #[R7 (S ⟨o,0,none⟩) n n,R5 R6 0],R7 (S ⟨A,0,none⟩) n i,.tuple #[R7 (S ⟨o,0,none⟩) n n,R5 R6 0],R7 (S ⟨o,0,none⟩) n n,R5 R6 0,R5 R6 0,.bool false,U,.slice b m J,R5 R6 m,R7 (S ⟨v4.heap.size,0,none⟩) 0 m,R7 (S ⟨o,0,none⟩) n n,R5 R6 n,R7 (S ⟨v5.heap.size,0,none⟩) n n,U,U,U,U,U,U,U,U,U,U,U,U,U,U,U,U,U,U,U,U,U,U,U,U,U,U,U,U,U,U,U,U,U,U,U,U,U,U,U,U,U,U,U]/\v5.heap.size<bA/\ar v5 t/\Bx t bA (R7 (S ⟨v5.heap.size,0,none⟩) n n) 106/\ ∃c,t.heap[v5.heap.size]? =S (.cells c 24 (0,0))/\c.size=n) bh ⟨_,Try.func17⟩ Zt Zs YU YU d d8 (λtp=> ?_) ?_
 ·obtain ⟨i0,hi,c3,D,a1⟩:=M7 Eh;have k0:(aK v5 tp 0).cell? ⟨Y,0,none⟩=S (R7 (S ⟨o,0,none⟩) n n):=((a0.keep b4).keep c4).cell;clear hF hK hv V b0 f q u b9 k N O r c2 E a2 c1 a3 P a4 a5 a6 I a0 c7 c9 b7 b4 d8 d6 c4 a9 d7 d9;go_wp2_with (first
   | (refine wpList_make_full _ rfl _ _ 106 rfl 0 24 i0 (.slice none 0 0) 1 Try.underlying106 hi c3 D .i64 .i64 _ _ n rfl rfl rfl rfl (by rw[a1];omega) Zu (Nat.zero_le _) ?_;intro w3 s a7))
  have a8:ar v5 w3:=⟨a7.size,λd5 hb=>a7.block d5 hb YR⟩;have b5:v5.heap.size<w3.heap.size:=(dS s).2;obtain ⟨c,e0,e1⟩:=rQ s;exact ⟨w3.heap.size,⟨R,R⟩,b5,a8.trans (ar.alloc _ _),Bx.new R,c,((ar.alloc w3 _).2 _ b5).trans e0,e1⟩
 rintro h4 x6 y6 v6 w6 F6 f4 h5 ⟨bA,rfl,e3,d0,c5,cR,e2,d3⟩ d e4;have e5:=Na c5;refine aa.ah d λw d=> ?_;refine aa.ej (Q:=λx' t=> ∃bR,x'= #[R7 (S ⟨A,0,none⟩) n i,.slice b m J,R5 R6 W,U,U,R8 (S ⟨v.heap.size,0,none⟩),.slice none 0 0,R5 R6 0,R8 (S ⟨Y,0,none⟩),R5 R6 0,R8 (S ⟨bM,0,none⟩),R8 (S ⟨bA,0,none⟩),R8 (S ⟨bR,0,none⟩),U,U,U,U,R5 R6 W,.bool true,.bool false,.tuple #[R7 (S ⟨o,0,none⟩) n n,R5 R6 0],R7 (S ⟨A,0,none⟩) n i,.tuple #[R7 (S ⟨o,0,none⟩) n n,R5 R6 0],R7 (S ⟨o,0,none⟩) n n,R5 R6 0,R5 R6 0,.bool false,U,.slice b m J,R5 R6 m,R7 (S ⟨v4.heap.size,0,none⟩) 0 m,R7 (S ⟨o,0,none⟩) n n,R5 R6 n,R7 (S ⟨v5.heap.size,0,none⟩) n n,R7 (S ⟨o,0,none⟩) n n,R5 R6 n,R7 (S ⟨v6.heap.size,0,none⟩) n n,U,U,U,U,U,U,U,U,U,U,U,U,U,U,U,U,U,U,U,U,U,U,U,U,U,U,U,U,U,U,U,U,U,U,U,U,U,U,U,U]/\v6.heap.size<bR/\ar v6 t/\Bx t bR (R7 (S ⟨v6.heap.size,0,none⟩) n n) 24/\ ∃c,t.heap[v6.heap.size]? =S (.cells c 26 (0,0))/\c.size=n) bh ⟨_,Try.func17⟩ Zt Zs YU YU d e4 (λtp=> ?_) ?_
 ·obtain ⟨i0,hi,c3,D,a1⟩:=M7 fY;have k0:(aK v6 tp 0).cell? ⟨Y,0,none⟩=S (R7 (S ⟨o,0,none⟩) n n):=(((a0.keep b4).keep c4).keep d0).cell;clear hF hK hv V b0 f q u b9 k N O r c2 E a2 c1 a3 P a4 a5 a6 I a0 c7 c9 b7 b4 d8 d6 c4 a9 d7 d9 e4 e3 d0 c5 e2 d3 e5;go_wp2_with (first
   | (refine wpList_make_full _ rfl _ _ 24 rfl 0 26 i0 (R3 R4 0 0) 1 Try.underlying24 hi c3 D .i64 .i64 _ _ n rfl rfl rfl rfl (by rw[a1];omega) Zu (Nat.zero_le _) ?_;intro w3 s a7))
  have a8:ar v6 w3:=⟨a7.size,λd5 hb=>a7.block d5 hb YR⟩;have b5:v6.heap.size<w3.heap.size:=(dS s).2;obtain ⟨c,e0,e1⟩:=rQ s;exact ⟨w3.heap.size,⟨R,R⟩,b5,a8.trans (ar.alloc _ _),Bx.new R,c,((ar.alloc w3 _).2 _ b5).trans e0,e1⟩
 rintro f5 x7 y7 v7 w7 F7 f6 h6 ⟨bR,rfl,f7,d1,e6,cw,f8,e7⟩ d f9;rw[<-eT];have K:=((b4.trans c4).trans d0).trans d1;have c6:=d0.trans d1;refine hK f5 v7 F7 w7 _ y7 o v.heap.size Y v4.heap.size bM v5.heap.size bA v6.heap.size bR d2 L (((((((e8.trans e9).trans f1).trans f2).trans f3).trans f4).trans f6)) d ⟨E.trans K,K.cell a2.cell,K.cell a0.cell,⟨(a9.keep c6).cell,(a9.keep c6).free,d7.low c6⟩,(c5.keep d1).cell,⟨cR,(d1.2 _ (aG e2)).trans e2,d3⟩,e6.cell,⟨cw,f8,e7,λj hj=>absurd hj (Nat.not_lt_zero _)⟩,⟨Nat.le_refl _,c1.1,c1.2,by have:=b4.1;omega,d6,d9,e3,e5,f7⟩,λb3 hi=>K.cell (a3 b3 hi),λb3 hi=>(P b3 hi).mv (λ_ _ hu=>K.cell hu) (λ_=>K.2 _ (P b3 hi).lt.2.1) K.1,a5,a4,a6,I⟩ R R R R R R R f9
end
noncomputable def GO:K9:=match CP with | .seq _ c=>c | _=> .skip
noncomputable def lF:K9:=match km with | .rangeFunc _ _ a _=>a | _=> .skip
noncomputable def jZ:K9:=match km with | .rangeFunc _ _ _ b=>b | _=> .skip
noncomputable def PO:K9:=match Try.f40.body with | some c=>c | _=> .skip
noncomputable def qE:K9:=match Try.f69.body with | some c=>c | _=> .skip
theorem Kv:Try.f69.body=S qE:=Zs
theorem wX.keep {d:World}{g bM e f j:Nat}{L:Nat->Nat}{Z:Nat->C2}(a:wX w v W n m A J N g bM V e f j T B L X h Z)(k:ar v d):wX w d W n m A J N g bM V e f j T B L X h Z:=by
 obtain ⟨c,l,p⟩:=a.rl;obtain ⟨r,o,s,t⟩:=a.rr;have u:g<v.heap.size:=by obtain ⟨c,q,_⟩:=a.mo.o.block;exact aG q
 exact ⟨a.low.trans k,k.cell a.w,k.cell a.wk,a.mo.low (k.2 _ (cy a.mo.c)) (k.2 _ u),k.cell a.an,⟨c,(k.2 _ (aG l)).trans l,p⟩,k.cell a.rw,⟨r,(k.2 _ (aG o)).trans o,s,t⟩,a.ord,λi b=>k.cell (a.works i b),λi b=>(a.dp i b).mv (λ_ _ x=>k.cell x) (λ_=>k.2 _ (a.dp i b).lt.2.1) k.1,a.new,a.top,a.lN,a.mH⟩
section
variable {S:Sx}{v0:World}{b8 g bM Rl bA Rw bR:Nat}{L:Nat->Nat}{Z:Nat->C2}{x:Array Value}
theorem DL (hn:n<=1000)(hC:N=1 + 262144 / (1 + n))(f:At (E0 S) e v F bO w)(hB:wX v0 v W n m A V b8 g bM Rl bA Rw bR T B L X h Z)(c2:x.size=77)(s1:x[1]? =some (.slice b m J))(s5:x[5]? =some (ptr V))(s8:x[8]? =some (ptr b8))(M:x[10]? =some (ptr bM))(O:x[11]? =some (ptr bA))(P:x[12]? =some (ptr bR))(hv:aB e x y)
  (hK: ∀o Y K F' w' p y' j bl bc,S.n<=o->Ext e Y->ar v K->At (E0 S) Y K F' (vB λc3=>if c3=o then some (.deferred (some []))else if c3=o + 1 then some (.loop (Iz 17 y' #[44] lF jZ o))else none) w'->Bx K bl (.slice b m J) 24->Bx K bc (R5 R6 N) 3->v.heap.size<=bl->v.heap.size<=bc->p.size=77->p[5]? =some (ptr V)->p[8]? =some (ptr b8)->p[10]? =some (ptr bM)->p[11]? =some (ptr bA)->p[12]? =some (ptr bR)->aB Y p y'->aB Y #[ptr bl,ptr bc] j->
   cO a S F' (G (ak 69 (#[.func (.yield (o + 1)) #[] #[]] ++ j ++ Array.replicate (31 - (1 + j.size)) undef) [.code qE]) (aR (none,[⟨.collected o,#[]⟩]) 17 y' [.inRangeFunc (o + 1),.inBlock 0,.code GO]::l)) w'):
  cO a S F (G (ak 17 y [.code CP]) l) w:=by
 have eT:CP=CP:=rfl;have eU:GO=GO:=rfl;have eA:lF=lF:=rfl;have eR:jZ=jZ:=rfl;have b0:PO=PO:=rfl;conv at eT=>rhs;unfold CP;simp only[Try.f17]
 conv at eU=>rhs;unfold GO CP;simp only[Try.f17]
 conv at eA=>rhs;unfold lF km;simp only[Try.f17]
 conv at eR=>rhs;unfold jZ km;simp only[Try.f17]
 conv at b0=>rhs;unfold PO;simp only[Try.f40]
 rw[eT];obtain ⟨N1,a0⟩: ∃N1:Nat,N1=1 + n:=⟨_,R⟩;obtain ⟨D,hD⟩: ∃D:Nat,D=262144 / N1:=⟨_,R⟩;have d0:D<=262144:=by rw[hD];exact Nat.div_le_self _ _
 have a6:N=1 + D:=by rw[hC,hD,a0]
 have w1:IntKind.i64.wrap (1 + (n:Int))=(N1:Int):=Zw;have w2:IntKind.i64.wrap (Int.tdiv 262144 (N1:Int))=(D:Int):=by
  have:Int.tdiv 262144 (N1:Int)=(D:Int):=by rw[hD];rfl
  rw[this,IntKind.wrap_i64];omega
 have w3:IntKind.i64.wrap (1 + (D:Int))=(N:Int):=Zw;have w4: ¬ ((N1:Int)=0):=YP;obtain ⟨u,hx,hu⟩:=lC c2;rw[hu 1 _ s1,hu 5 _ s5,hu 8 _ s8,hu 10 _ M,hu 11 _ O,hu 12 _ P]at hx;rw[hx]at hv;refine aa.ah f λw f=> ?_;refine aa.ah f λw f=> ?_;refine aa.aC f λw f=> ?_;refine aa.ops (L:= [0,1,2,3,4,5]) (rest:= [6]) (ey:= #[_,_,_,_,_,_]) (Q:=λp K=>p= #[u 0,.slice b m J,u 2,u 3,u 4,ptr V,u 6,u 7,ptr b8,u 9,ptr bM,ptr bA,ptr bR,u 13,u 14,u 15,u 16,u 17,u 18,u 19,u 20,u 21,u 22,u 23,u 24,u 25,u 26,u 27,u 28,u 29,u 30,u 31,u 32,u 33,u 34,u 35,u 36,.slice b m J,R7 (some ⟨A,0,none⟩) n n,R5 R6 n,R5 R6 N1,R5 R6 D,R5 R6 N,u 43,u 44,u 45,u 46,u 47,u 48,u 49,u 50,u 51,u 52,u 53,u 54,u 55,u 56,u 57,u 58,u 59,u 60,u 61,u 62,u 63,u 64,u 65,u 66,u 67,u 68,u 69,u 70,u 71,u 72,u 73,u 74,u 75,u 76]/\K.heap=v.heap) bh ⟨_,Try.func17⟩ Zt 0 (.cons ⟨_,R,R,Zs,R⟩ (.cons ⟨_,R,R,Zs,R⟩ (.cons ⟨_,R,R,Zs,R⟩ (.cons ⟨_,R,R,Zs,R⟩ (.cons ⟨_,R,R,Zs,R⟩ (.cons ⟨_,R,R,Zs,R⟩ .nil)))))) Zs YU YU f hv (λtp=> ?_) ?_
 ·have k0:(aK v tp 0).cell? ⟨b8,0,none⟩=some (R7 (some ⟨A,0,none⟩) n n):=hB.wk;clear f hv hB hK hx hu s1 s5 s8 M O P a0 hD hC a6;unfold ptr;go_wp2
  rfl
 rintro b1 x1 y1 q d1 F1 c4 d2 ⟨rfl,C⟩ f s;have E:=ar.heap C;refine aa.go f YR (λ_=>fM R R R Try.func40 R R) λw f=> ?_;have a7:aB b1 #[.slice b m J,R5 R6 N] ((#[.tmp 37,.tmp 42]:Array Operand).map (Act.eval ⟨y1,[]⟩)):=rf (s.ev (t:=37) R) (s.ev (t:=42) R);have a1:aB b1 #[.slice b m J,R5 R6 N,undef,undef,undef,undef,undef,undef,undef] ((#[.tmp 37,.tmp 42]:Array Operand).map (Act.eval ⟨y1,[]⟩) ++ Array.replicate 7 undef):=a7.ei 7;change cO a S F1 (G (ak 40 ((#[.tmp 37,.tmp 42]:Array Operand).map (Act.eval ⟨y1,[]⟩) ++ Array.replicate 7 undef) [.code PO]) _) w;rw[b0];generalize (#[.tmp 37,.tmp 42]:Array Operand).map (Act.eval ⟨y1,[]⟩) ++ Array.replicate 7 undef=ya at a1 ⊢;refine aa.ah f λw f=> ?_;refine aa.ej (Q:=λp K=>p= #[.slice b m J,R5 R6 N,ptr q.heap.size,ptr (q.heap.size + 1),.nilFunc,undef,undef,undef,undef]/\K.heap=(q.heap.push (.cells #[.slice b m J] 24)).push (.cells #[R5 R6 N] 3)) bh ⟨_,Try.func40⟩ Zt Zs YU YU f a1 (λtp=> ?_) ?_
 ·clear f hv hB hK hx hu s1 s5 s8 M O P a0 hD hC a6 s C E a7 a1;unfold ptr;go_wp2
  exact ⟨R,R⟩
 rintro d3 x2 y2 v2 d4 F2 b2 d5 ⟨rfl,k⟩ f b3;have b4:ar q v2:=⟨by rw[k];simp;omega,λc3 hb=>by rw[k];simp only[Array.getElem?_push,Array.size_push];rw[if_neg YP,if_neg YP]⟩;have a4:Bx v2 q.heap.size (.slice b m J) 24:=by unfold Bx;rw[k,Array.getElem?_push,if_neg YR,Array.getElem?_push,if_pos R]
 have H:Bx v2 (q.heap.size + 1) (R5 R6 N) 3:=by unfold Bx;rw[k,Array.getElem?_push,if_pos YR]
 have d6: ¬ ((N:Int)<1):=YP;refine aa.ah f λw f=> ?_;refine aa.ah f λw f=> ?_;refine aa.ej (Q:=λp K=>p= #[.slice b m J,R5 R6 N,ptr q.heap.size,ptr (q.heap.size + 1),.nilFunc,R5 R6 N,.bool false,undef,undef]/\K.heap=v2.heap) bh ⟨_,Try.func40⟩ Zt Zs YU YU f b3 (λtp=> ?_) ?_
 ·have k0:(aK v2 tp 0).cell? ⟨q.heap.size + 1,0,none⟩=some (R5 R6 N):=H.cell;clear f hv hB hK hx hu s1 s5 s8 M O P a0 hD hC a6 s C E a7 a1 b3 k b4 a4 H;unfold ptr;go_wp2
  rfl
 rintro a2 x3 y3 v3 d7 F3 b5 d8 ⟨rfl,b6⟩ f a3;have a8:=ar.heap b6;refine aa.go f YR (λ_=>bH (a3.bool R)) λw f=> ?_;simp only[J6, ↓reduceIte];refine aa.dh f λw f=> ?_;refine aa.ah f λw f=> ?_;refine aa.aC f λw f=> ?_;refine aa.go f YR (λ_=>qi (d:=8) R R R R) λw f=> ?_;obtain ⟨j,I⟩: ∃j,j=(#[.tmp 2,.tmp 3]:Array Operand).map (Act.eval ⟨y3,[]⟩):=⟨_,R⟩;have c5:aB a2 #[ptr q.heap.size,ptr (q.heap.size + 1)] j:=by rw[I];exact rf (a3.ev (t:=2) R) (a3.ev (t:=3) R)
 rw[<-I];have b7:y3.size=9:=by have:=a3.1;simpa using this.symm
 have c6:Act.eval ⟨y3.setIfInBounds 8 (.func (.func 69) #[] j),[]⟩ (.tmp 8)= .func (.func 69) #[] j:=ay (aE (n:=9) b7 YQ);refine aa.go f YR (λ_=>kH (d:=4) R R R (.inr R)) λw f=> ?_;rw[c6];refine aa.aH f λw f=> ?_;refine aa.pP f λw f=> ?_;refine aa.go f YR (λ_=>EU Try.func40 R) λw f=> ?_;have c7:((y3.setIfInBounds 8 (.func (.func 69) #[] j)).setIfInBounds 4 (.func (.func 69) #[] j)).getD 4 undef= .func (.func 69) #[] j:=by rw[Array.getD_eq_getD_getElem?,aE (n:=9) (by simpa using b7) YQ];rfl
 rw[c7,bu R];have a9:=aB.set (i:=43) (s.mono (b2.trans b5)) (VR.qH (r:=a2) (.func (.func 69) #[] j) trivial);change aB a2 #[u 0,.slice b m J,u 2,u 3,u 4,ptr V,u 6,u 7,ptr b8,u 9,ptr bM,ptr bA,ptr bR,u 13,u 14,u 15,u 16,u 17,u 18,u 19,u 20,u 21,u 22,u 23,u 24,u 25,u 26,u 27,u 28,u 29,u 30,u 31,u 32,u 33,u 34,u 35,u 36,.slice b m J,R7 (some ⟨A,0,none⟩) n n,R5 R6 n,R5 R6 N1,R5 R6 D,R5 R6 N,.nilFunc,u 44,u 45,u 46,u 47,u 48,u 49,u 50,u 51,u 52,u 53,u 54,u 55,u 56,u 57,u 58,u 59,u 60,u 61,u 62,u 63,u 64,u 65,u 66,u 67,u 68,u 69,u 70,u 71,u 72,u 73,u 74,u 75,u 76] _ at a9;have b9:y1.size=77:=by have:=s.1;simpa using this.symm
 have a5:Act.eval ⟨y1.setIfInBounds 43 (.func (.func 69) #[] j),[]⟩ (.tmp 43)= .func (.func 69) #[] j:=ay (aE (n:=77) b9 YQ);change cO a S F3 (G (ak 17 (y1.setIfInBounds 43 (.func (.func 69) #[] j)) _) l) w;generalize y1.setIfInBounds 43 (.func (.func 69) #[] j)=y4 at a9 a5 ⊢;refine aa.aH f λw f=> ?_;refine aa.aV f λw f=> ?_;rw[<-eA,<-eR,<-eU];refine cO.OL (g2:=λo=>G (ak 69 (#[.func (.yield (o + 1)) #[] #[]] ++ j ++ Array.replicate (31 - (1 + j.size)) undef) [.code qE]) (aR (none,[⟨.collected o,#[]⟩]) 17 y4 [.inRangeFunc (o + 1),.inBlock 0,.code GO]::l)) (o1:= .deferred (some [])) (o2:=λo=> .loop (Iz 17 y4 #[44] lF jZ o)) f trivial (λ_=>trivial) R (λ_=>⟨R,R⟩) (λw1=>FJ (ps:= #[44]) (ac:=lF) (bd:=jZ) Try.func69 (c:=qE) Kv Zs a5) λo F' w' c9 c1=> ?_;have:=hK o a2 v3 F' w' _ y4 j q.heap.size (q.heap.size + 1) c9 ((c4.trans b2).trans b5) ((E.trans b4).trans a8) c1 (a4.keep a8) (H.keep a8) E.1 (by have:=E.1;omega) R R R R R R a9 c5;exact this
end
noncomputable def jH:K9:=match qE with | .seq _ (.block _ (.loop c))=>c | _=> .skip
noncomputable def GK:Array Q0:=match jH with | .seq _ (.seq (.block _ (.seq (.region _ o _) _)) _)=>o | _=> #[]
noncomputable def um:Array Q0:=match jH with | .seq _ (.seq (.block _ (.seq _ (.seq (.region _ o _) _))) _)=>o | _=> #[]
noncomputable def ud:K9:=match jH with | .seq _ (.seq (.block _ (.seq _ (.seq _ c))) _)=>c | _=> .skip
noncomputable def ur:K9:=match jH with | .seq _ (.seq _ c)=>c | _=> .skip
theorem Gk {y:K1}(a:o.op= .slice 24 x (S y) none none)(b:d x= R7 (S ⟨n,A,none⟩) m i)(c:d y= R5 R6 (0:Nat)):(J4 d o).run Try.prog w= .ok (.value (R7 (S ⟨n,A,none⟩) m i)) w:=by unfold J4;simp only[a,b,c,K5,Option.map_none];go_simp
theorem Gl {y p q:K1}(a:o.op= .slice 24 x (S y) (S p) (S q))(b:d x= R7 (S ⟨n,A,none⟩) m i)(c:d y= R5 R6 (0:Nat))(e:d p= R5 R6 m)(f:d q= R5 R6 m)(g:m<=i):(J4 d o).run Try.prog w= .ok (.value (R7 (S ⟨n,A,none⟩) m m)) w:=by unfold J4;simp only[a,b,c,e,f,K5];go_simp
theorem PI {y:K1}(a:o.op= .call {callee:= .builtin .min,args:= #[x,y],argTypes:= #[3,3]})(b:d x= R5 R6 n)(c:d y= R5 R6 m)(h:m<=n):(J4 d o).run Try.prog w= .ok (.value (R5 R6 m)) w:=by have e:(m:Int)<=(n:Int):=YP;unfold J4;simp only[a];go_simp;omega
theorem JU {y:K1}(a:o.op= .binOp .add 3 x y 3)(b:d x= R5 R6 n)(c:d y= R5 R6 m)(f:A=n + m)(g:A<4611686018427387904):(J4 d o).run Try.prog w= .ok (.value (R5 R6 (A:Nat))) w:=by have e:IntKind.i64.wrap ((n:Int) + m)=((A:Nat):Int):=Zw;unfold J4;simp only[a,b,c];go_simp
theorem OI(h:y.size=31): ∃u:Nat->Value,y= #[u 0,u 1,u 2,u 3,u 4,u 5,u 6,u 7,u 8,u 9,u 10,u 11,u 12,u 13,u 14,u 15,u 16,u 17,u 18,u 19,u 20,u 21,u 22,u 23,u 24,u 25,u 26,u 27,u 28,u 29,u 30]/\ ∀ (i:Nat) v,y[i]? =S v->u i=v:=by obtain ⟨u,a,b⟩:=pT h;exact ⟨u,a,b⟩
section
variable {m:Bool}{End:aq->Goroutine->World->Nat->Prop}{d:Nat}{r:ca}{ph:Ph}{fn:FuncId}{x:Array Value}{ops:Array Oper}{rest:List Nat}{cs:Nat->Bool}
theorem KQ (a:aB e x y):ER e (J2 ⟨x,[]⟩) (J2 ⟨y,[]⟩):=by have h:=ia (r:=e) (x:=x) (y:=y) (fn:=0) (fn':=0) (t:= []) (t':= []) (d:= []) (d':= []) (m:= .run) (m':= .run) (k:= .normal) (k':= .normal) a;assumption
theorem aa.lW (hP:sG P cs)(W: ¬ph.late)(ho:ops[i]? =S o)(hg:o.guard=none)(X:jM P cs o.op=true)(hd:o.dst=S n)(L:At E e v F j w)(hv:aB e x y)
  (hr: ∀Y:World,Y.heap=v.heap->(J4 (J2 ⟨x,[]⟩) o).run P Y= .ok (.value u) Y)
  (K: ∀m A Z B,Ext e m->F.le Z->VR m u B->At E m v Z j A->aa P E p c D End d s z ph Z (G (ak f (y.setIfInBounds n B) (.inRegion ops rest::k)) l) A):
  aa P E p c D End d s z ph F (G (ak f y (.inRegion ops (i::rest)::k)) l) w:=by
 have hw:L1 o (yielded ops (Act.mk y []).tmps)=true:=by unfold L1;rw[hg]
 have key: ∀r,RK E F w r-> ∃m B A,K3 P p (G (ak f y (.inRegion ops (i::rest)::k)) l) r= .go (G (ak f (y.setIfInBounds n B) (.inRegion ops rest::k)) l) A (listed P f ⟨y,[]⟩ o r)/\dA m v A/\jf e m v r v A/\VR m u B/\ ∀N∈listed P f ⟨y,[]⟩ o r,jd m v N:=λr M=>by
  have g:=L.rely M;have a0:=(jR hP.ok (KQ hv) o X) v r #[] #[] 0 g.bQ (λa4 q hj=>absurd hj (O5 _));obtain ⟨m,b,A,a5,H,I,J,O,Q⟩:=a0.1 (.value u) v ((J4 (J2 ⟨x,[]⟩) o).events P v #[]) (by simp_all) YP;cases O with
  | @value _ B O=>
   rw[Q4]at H;have T:=congrArg Prod.fst H;have a1:=congrArg Prod.snd H;dsimp only at T a1;have V:=stepG_value (P:=P) (main:=p) (b:=ak f y []) (a:=⟨y,[]⟩) (k:=k) (cs:=l) (rest:=rest) ho hw (by simp[ak]) T;refine ⟨m,B,A,?_,I,J,O,λN he=> ?_⟩
   ·rw[hd]at V;exact V
   ·have h6:=eP _ _ N he;grind
 refine aa.step (λr=>match K3 P p (G (ak f y (.inRegion ops (i::rest)::k)) l) r with | .go _ A _=>F.add r.heap.size A.heap.size | _=> .none) R W (λr M=> ?_) (λr g' A es M N=> ?_)
 ·obtain ⟨m,B,A,H,I,J,O,Q⟩:=key r M;have g:=L.rely M;have t:oH F r A (listed P f ⟨y,[]⟩ o r):=(lM g.fp.nc g.bQ I J Q).wc (C:=F.cl) λ_ _ h=>h;refine ⟨_,_,_,H,t,⟨R,R⟩,?_,?_⟩
  ·rw[H];exact aq.dG _
  ·rw[H];exact (g.fg.did t).ok
 ·obtain ⟨m,B,w2,H,I,J,O,Q⟩:=key r M;have g:=L.rely M;have t:oH F r w2 (listed P f ⟨y,[]⟩ o r):=(lM g.fp.nc g.bQ I J Q).wc (C:=F.cl) λ_ _ h=>h;rw[H]at N;injection N with e1 e2 e3
  subst e1;subst e2;rw[H];have a2:=g.fp.tT g.bQ I J;refine K m w2 _ B J.ext (F.nI _ _) O ⟨I,a2,g.fg.did t,?_,g.held.did t g.fg.ok⟩;intro b a4 hc;have a3:=lM g.fp.nc g.bQ I J Q;exact g.cells.did a3 (λ_ _ h=>h) (λb i hb hw=>g.fg.ok.cl b i hb (g.fg.ok.wr b hw)) b a4 hc
end
section
variable {P:Program}{E:Env}{m:Bool}{Sp:ca->Tr->bC->List Ak->aq->Goroutine->World->Prop}{Lg:bC}{End:aq->Goroutine->World->Nat->Prop}{d:Nat}{lg:List bC}{ph:Ph}{w:World}{val:cH}{fn:FuncId}{x y:Array Value}{l:List Frame}{p:Array Value->Prop}
def oY (p:Array J8->Prop)(P:Program)(E:Env)(m:Bool)(e:ca->Tr->bC->List Ak->aq->P9->World->Prop)(f:bC)(b:aq->P9->World->Nat->Prop)(d:Nat)(g:List bC)(h:Ph)(c:cH)(i:FuncId)(l:List Frame)(s:CO)(a:List Item):Prop:=
 ∀y w,At E s.ρ s.v s.F c w->aB s.ρ s.x y->p y->aa P E m e f b d s.r g h s.F (G (ak i y a) l) w
theorem aa.BQ
  (q: ∀ (b:Array Bool) i o s d,I b s->b.size=r.size->r[i]? =S o->b.getD i true=false->(∀e∈o.after,K4 .any e=true->b.getD e.on false=true)->(∀g,I (b.setIfInBounds i true) g->oY p P E m c D a n z ph j f l g (.inRegion r d::k))->oY p P E m c D a n z ph j f l s (.inRegion r (i::d)::k))
  (t: ∀ (b:Array Bool) s,I b s->(∀i,i<r.size->b.getD i false=true)->oY p P E m c D a n z ph j f l s (.inRegion r []::k)):
  ∀ {b:Array Bool}{L:List Nat},kj r b L->b.size=r.size-> ∀s,I b s->oY p P E m c D a n z ph j f l s (.inRegion r L::k):=by
 intro b L h;induction h with
 | nil h=>grind
 | cons u v w _ x=>grind
theorem aa.LO {ops:Array Q0}(L: ¬ph.late)(hm:P.follows .mixedOrders=true)(hb:(N2 ops.size).all (λg=>((ops[g]?).map λo=>o.guard.isNone && o.after.all λq=> !K4 .any q || decide (q.on<g)).getD true)=true)
  (t:At E e v F j w)(M:aB e x y)(N:p y)(O:I (Array.replicate ops.size false) ⟨s,e,v,F,x⟩)
  (hs: ∀ (r:Array Bool) g o H B,I r H->r.size=ops.size->ops[g]? =S o->r.getD g true=false->(∀q∈o.after,K4 .any q=true->r.getD q.on false=true)->(∀W,I (r.setIfInBounds g true) W->oY p P E m c D a A z ph j f l W (.inRegion ops B::k))->oY p P E m c D a A z ph j f l H (.inRegion ops (g::B)::k))
  (hK: ∀ (r:Array Bool) H,I r H->(∀g,g<ops.size->r.getD g false=true)->oY p P E m c D a A z ph j f l H k):aa P E m c D a A s z ph F (G (ak f y (.code (.region i ops true)::k)) l) w:=by
 have J: ∀g o,ops[g]? =S o-> ∀q∈o.after,K4 .any q=true->q.on<g:=by intro g o ho q Q T;have hi:g<ops.size:=YS;have:=O0.1 hb g (O7.2 hi);rw[ho]at this;simp only[K5,L6,Bool.and_eq_true]at this;have X:=Array.all_eq_true'.1 this.2 q Q;rw[T]at X;simpa using X
 have Y: ∀ (u:World),K3 P m (G (ak f y (.code (.region i ops true)::k)) l) u= .go (G (ak f y (.inRegion ops (K6 (P.follows .mixedOrders) ops (u.tape u.drawn (.order f i)))::k)) l) {u with drawn:=u.drawn + 1}:=λu=>by rfl
 refine aa.step (λ_=>F) R L (λC Z=>⟨_,_,_,Y C,⟨λ_ _ _ _=>rfl,λb V q a0 _ h=>⟨V,h,R,λ_ _=>rfl⟩,L4 _,λb V q a0 h=>⟨V,a0,h⟩,R,R,R,λq Q=>by simp at Q⟩,⟨R,R⟩,?_,t.fg.ok⟩) λC g' w' es Z q=> ?_
 ·exact ⟨λ_ h=> .inl h,λ_ h=> .inl h,λ_ _ h=> .inl h⟩
 ·rw[Y]at q;injection q with e1 e2
  subst e1;subst e2;have d:=t.rely Z;have K:At E e v F j {C with drawn:=C.drawn + 1}:=⟨⟨d.bQ.size,d.bQ.inj,d.bQ.low,d.bQ.et,d.bQ.pos,d.bQ.cells,d.bQ.num⟩,d.fp,⟨d.fg.ok,d.fg.low,d.fg.dZ,d.fg.out,d.fg.live,d.fg.pure⟩,d.cells,d.held⟩;have hl:kj ops (Array.replicate ops.size false) (K6 (P.follows .mixedOrders) ops (C.tape C.drawn (.order f i))):=by simp only[K6,hm,Bool.true_or,if_true];exact yf J _ _ _ YR (by rw[<-Array.size_replicate (n:=ops.size) (v:=false)];grind)
  refine aa.BQ hs (λr H O hd y w t M N=> ?_) hl YR ⟨s,e,v,F,x⟩ O y _ K M N;refine aa.go t (by cases ph<;>simp_all[Ph.late]) (λ_=>qj) λC d=> ?_;exact hK r H O hd y C d M N
end
theorem JV(a:o.op= .assign x)(b:d x=u):(J4 d o).run Try.prog w= .ok (.value u) w:=by unfold J4;simp[a,b]
def qO (j:Nat):Nat:=if j=6 then 5 else 13 + j
def u693 (b a m c C:Nat):Nat->J8
 | 0=> R5 R6 C
 | 1=> R7 (S ⟨b,a,none⟩) m c
 | 2=> R5 R6 (0:Nat)
 | 3=> R7 (S ⟨b,a,none⟩) m c
 | _=> R5 R6 m
structure PU (ρ:aU)(v:World)(F:aq)(x:Array J8)(r:ca)(vl:Nat->J8)(dn:Array Bool)(s:CO):Prop where
 wx:Ext ρ s.ρ
 vv:s.v=v
 qP:F.le s.F
 sz:s.x.size=31
 same: ∀k:Nat,k<5->s.x[k]? =x[k]?
 rr:s.r=r
 HR: ∀j,j<7->dn.getD j false=true->s.x[qO j]? =S (vl j)
theorem PU.put {ρ:aU}{a:aq}{r:ca}{b:Array Bool}{s:CO}(h:PU ρ v F y r H b s)(j:Nat)(g:j<7)(c:Ext s.ρ e)(d:s.F.le a):PU ρ v F y r H (b.setIfInBounds j true) ⟨s.r,e,s.v,a,s.x.setIfInBounds (qO j) (H j)⟩ where
 wx:=h.wx.trans c
 vv:=h.vv
 qP:=aq.le_trans h.qP d
 sz:=by simpa using h.sz
 same k hk:=by show (s.x.setIfInBounds (qO j) (H j))[k]? =_;rw[J1,if_neg (by unfold qO;grind)];exact h.same k hk
 rr:=h.rr
 HR i hi hd:=by
  show (s.x.setIfInBounds (qO j) (H j))[qO i]? =_;by_cases f:i=j
  ·subst f;exact aE h.sz (by unfold qO;grind)
  ·rw[J1,if_neg (by unfold qO;grind)];refine h.HR i hi ?_;rw[J3,J1,if_neg YP,<-J3]at hd;exact hd
theorem JP (a b c:J8):(#[a,b,c] ++ J5 28 U:Array J8)= #[a,b,c,U,U,U,U,U,U,U,U,U,U,U,U,U,U,U,U,U,U,U,U,U,U,U,U,U,U,U,U]:=by simp
section
variable {Fin:aq->Goroutine->World->Nat->Prop}{S:Sx}{off Y:Nat}{r:Loop}
theorem xJ (b:At (E0 S) e v F (vB g) w)(o7:v.cell? ⟨W,0,none⟩=some (R7 (some ⟨V,off,none⟩) m A))(z9:v.cell? ⟨N,0,none⟩=some (R5 R6 J))(G8:0<m)(A0:m<=J)(A1:m<=A)(hC:J<=1000000)(q1:aB e #[ptr W,ptr N] y)(hY:g Y=some (.loop r))(hp:r.params= #[44])
  (K: ∀i0 F' w' x' y' u',Ext e i0->At (E0 S) i0 v F' (vB g) w'->x'.size=31->x'[1]? =some (ptr W)->x'[2]? =some (ptr N)->x'[4]? =some (R5 R6 (0:Nat))->aB i0 x' y'->VR i0 (R7 (some ⟨V,off,none⟩) m m) u'->cO Fin S F' (G (aR (some Y,[]) r.fn (r.tmps.setIfInBounds 44 u') [.code r.assign,.beginRound,.code r.body]) (ak 69 y' [.inRegion um [10,11],.code ud,.inBlock 1,.code ur,.inLoop jH,.inBlock 0]::l)) w'):
  cO Fin S F (G (ak 69 (#[.func (.yield Y) #[] #[]] ++ y ++ Array.replicate (31 - (1 + y.size)) undef) [.code qE]) l) w:=by
 have eB:qE=qE:=rfl;have eL:jH=jH:=rfl;have e3:GK=GK:=rfl;have e4:um=um:=rfl;have eC:ud=ud:=rfl;have e2:ur=ur:=rfl;conv at eB=>rhs;unfold qE;simp only[Try.f69]
 conv at eL=>rhs;unfold jH qE;simp only[Try.f69]
 conv at e3=>rhs;unfold GK jH qE;simp only[Try.f69]
 conv at e4=>rhs;unfold um jH qE;simp only[Try.f69]
 conv at eC=>rhs;unfold ud jH qE;simp only[Try.f69]
 conv at e2=>rhs;unfold ur jH qE;simp only[Try.f69]
 have G9:y.size=2:=by have:=q1.1;simpa using this.symm
 have A2:aB e #[Value.nilFunc] #[.func (.yield Y) #[] #[]]:=⟨R,λi x E6 hx hy=>by
  cases i with
  | zero=>cases hx;cases hy;exact .qH _ trivial
  | succ i=>simp at hx⟩
 have i1:=(aB.append A2 q1).ei 28;have A3:(#[Value.nilFunc] ++ #[ptr W,ptr N]:Array Value)= #[.nilFunc,ptr W,ptr N]:=YR;rw[A3,JP]at i1;have q2:(#[.func (.yield Y) #[] #[]] ++ y ++ Array.replicate 28 undef:Array Value)[0]? =some (.func (.yield Y) #[] #[]):=by rw[Array.getElem?_append_left YT,Array.getElem?_append_left YR];rfl
 have A4:31 - (1 + y.size)=28:=YP;rw[A4];generalize (#[.func (.yield Y) #[] #[]] ++ y ++ Array.replicate 28 undef:Array Value)=y0 at i1 q2 ⊢;have o8:(#[Value.nilFunc,ptr W,ptr N,undef,undef,undef,undef,undef,undef,undef,undef,undef,undef,undef,undef,undef,undef,undef,undef,undef,undef,undef,undef,undef,undef,undef,undef,undef,undef,undef,undef]:Array Value).size=31:=rfl;have j7:(#[Value.nilFunc,ptr W,ptr N,undef,undef,undef,undef,undef,undef,undef,undef,undef,undef,undef,undef,undef,undef,undef,undef,undef,undef,undef,undef,undef,undef,undef,undef,undef,undef,undef,undef]:Array Value)[1]? =some (ptr W):=rfl;have j8:(#[Value.nilFunc,ptr W,ptr N,undef,undef,undef,undef,undef,undef,undef,undef,undef,undef,undef,undef,undef,undef,undef,undef,undef,undef,undef,undef,undef,undef,undef,undef,undef,undef,undef,undef]:Array Value)[2]? =some (ptr N):=rfl;have j9:(#[Value.nilFunc,ptr W,ptr N,undef,undef,undef,undef,undef,undef,undef,undef,undef,undef,undef,undef,undef,undef,undef,undef,undef,undef,undef,undef,undef,undef,undef,undef,undef,undef,undef,undef]:Array Value)[0]? =some .nilFunc:=rfl;generalize (#[Value.nilFunc,ptr W,ptr N,undef,undef,undef,undef,undef,undef,undef,undef,undef,undef,undef,undef,undef,undef,undef,undef,undef,undef,undef,undef,undef,undef,undef,undef,undef,undef,undef,undef]:Array Value)=x0 at i1 o8 j9 j7 j8;have q4:=i1;have A5:Ext e e:= .refl _;rw[eB];refine aa.ah b λw b=> ?_;refine aa.aC b λw b=> ?_;refine aa.lW (i:=0) (u:= R5 R6 (0:Nat)) bh Zt R R Zs R b q4 (λf c=>JV R R) ?_;intro H0 w F1 u1 q5 H1 A6 b;have A7:=A5.trans q5;have E:=aB.set (i:=4) (aB.mono q5 q4) A6;have k0:=ab (d:=4) (u:= R5 R6 (0:Nat)) j9 YQ;have k1:=ab (d:=4) (u:= R5 R6 (0:Nat)) j7 YQ;have k2:=ab (d:=4) (u:= R5 R6 (0:Nat)) j8 YQ;have c9:=aE (u:= R5 R6 (0:Nat)) o8 (show 4<31 by decide);have o9:(x0.setIfInBounds 4 (R5 R6 (0:Nat))).size=31:=by simpa using o8
 have q6:=ab (d:=4) (u:=u1) q2 YQ;generalize x0.setIfInBounds 4 (R5 R6 (0:Nat))=x1 at E o9 k0 k1 k2 c9;generalize y0.setIfInBounds 4 u1=y1 at E q6 ⊢;refine aa.aH b λw b=> ?_;refine aa.aV b λw b=> ?_;refine aa.dO b λw b=> ?_;refine aa.ah b λw b=> ?_;refine aa.ah b λw b=> ?_;refine aa.aC b λw b=> ?_;refine aa.lW (i:=0) (u:= R5 R6 (0:Nat)) bh Zt R R Zs R b E (λf c=>kS R (ay c9)) ?_;intro A8 w F2 u2 d0 q7 p0 b;have A9:=A7.trans d0;have i2:=aB.set (i:=6) (aB.mono d0 E) p0;have k3:=ab (d:=6) (u:= R5 R6 (0:Nat)) k0 YQ;have d1:=ab (d:=6) (u:= R5 R6 (0:Nat)) k1 YQ;have k4:=ab (d:=6) (u:= R5 R6 (0:Nat)) k2 YQ;have k5:=ab (d:=6) (u:= R5 R6 (0:Nat)) c9 YQ;have k6:=aE (u:= R5 R6 (0:Nat)) o9 (show 6<31 by decide);have p1:(x1.setIfInBounds 6 (R5 R6 (0:Nat))).size=31:=by simpa using o9
 have q8:=ab (d:=6) (u:=u2) q6 YQ;generalize x1.setIfInBounds 6 (R5 R6 (0:Nat))=x2 at i2 p1 k3 d1 k4 k5 k6;generalize y1.setIfInBounds 6 u2=y2 at i2 q8 ⊢;refine aa.lW (i:=1) (u:= R7 (some ⟨V,off,none⟩) m A) bh Zt R R Zs R b i2 (λf c=>gS R (ay d1) (gq (show f.cell? _=_ by unfold World.cell?;rw[c];exact o7))) ?_;intro H2 w F3 u3 q9 H3 B0 b;have B1:=A9.trans q9;have i3:=aB.set (i:=7) (aB.mono q9 i2) B0;have k7:=ab (d:=7) (u:= R7 (some ⟨V,off,none⟩) m A) k3 YQ;have k8:=ab (d:=7) (u:= R7 (some ⟨V,off,none⟩) m A) d1 YQ;have k9:=ab (d:=7) (u:= R7 (some ⟨V,off,none⟩) m A) k4 YQ;have l0:=ab (d:=7) (u:= R7 (some ⟨V,off,none⟩) m A) k5 YQ;have l1:=ab (d:=7) (u:= R7 (some ⟨V,off,none⟩) m A) k6 YQ;have d2:=aE (u:= R7 (some ⟨V,off,none⟩) m A) p1 (show 7<31 by decide);have p3:(x2.setIfInBounds 7 (R7 (some ⟨V,off,none⟩) m A)).size=31:=by simpa using p1
 have r0:=ab (d:=7) (u:=u3) q8 YQ;generalize x2.setIfInBounds 7 (R7 (some ⟨V,off,none⟩) m A)=x3 at i3 p3 k7 k8 k9 l0 l1 d2;generalize y2.setIfInBounds 7 u3=y3 at i3 r0 ⊢;refine aa.lW (i:=2) (u:= R5 R6 m) bh Zt R R Zs R b i3 (λf c=>oq R (ay d2) R) ?_;intro H4 w F4 u4 r1 H5 B2 b;have B4:=B1.trans r1;have i4:=aB.set (i:=8) (aB.mono r1 i3) B2;have l2:=ab (d:=8) (u:= R5 R6 m) k7 YQ;have l3:=ab (d:=8) (u:= R5 R6 m) k8 YQ;have l4:=ab (d:=8) (u:= R5 R6 m) k9 YQ;have l5:=ab (d:=8) (u:= R5 R6 m) l0 YQ;have d3:=ab (d:=8) (u:= R5 R6 m) l1 YQ;have l6:=ab (d:=8) (u:= R5 R6 m) d2 YQ;have d4:=aE (u:= R5 R6 m) p3 (show 8<31 by decide);have p4:(x3.setIfInBounds 8 (R5 R6 m)).size=31:=by simpa using p3
 have r2:=ab (d:=8) (u:=u4) r0 YQ;generalize x3.setIfInBounds 8 (R5 R6 m)=x4 at i4 p4 l2 l3 l4 l5 d3 l6 d4;generalize y3.setIfInBounds 8 u4=y4 at i4 r2 ⊢;refine aa.lW (i:=3) (u:= .bool true) bh Zt R R Zs R b i4 (λf c=>Gi R (ay d3) (ay d4) YP) ?_;intro B5 w F5 u5 r3 H6 B6 b;have B8:=B4.trans r3;have i5:=aB.set (i:=9) (aB.mono r3 i4) B6;have l7:=ab (d:=9) (u:= .bool true) l2 YQ;have d5:=ab (d:=9) (u:= .bool true) l3 YQ;have d6:=ab (d:=9) (u:= .bool true) l4 YQ;have d7:=ab (d:=9) (u:= .bool true) l5 YQ;have r4:=ab (d:=9) (u:= .bool true) d3 YQ;have r5:=ab (d:=9) (u:= .bool true) l6 YQ;have r7:=ab (d:=9) (u:= .bool true) d4 YQ;have l8:=aE (u:= .bool true) p4 (show 9<31 by decide);have r8:(x4.setIfInBounds 9 (.bool true)).size=31:=by simpa using p4
 have r9:=ab (d:=9) (u:=u5) r2 YQ;generalize x4.setIfInBounds 9 (.bool true)=x5 at i5 r8 l7 d5 d6 d7 r4 r5 r7 l8;generalize y4.setIfInBounds 9 u5=y5 at i5 r9 ⊢;refine aa.aH b λw b=> ?_;refine aa.go b YR (λ_=>bH (i5.bool l8)) λw b=> ?_;simp only[if_true];refine aa.dh b λw b=> ?_;refine aa.ah b λw b=> ?_;refine aa.aV b λw b=> ?_;refine aa.ah b λw b=> ?_;rw[<-e3];refine aa.LO (ops:=GK) (p:=λE6=>E6[0]? =some (.func (.yield Y) #[] #[])) (I:=PU B5 v F5 x5 (λ_=>none) (u693 V off m A J)) Zt Zs Zs b i5 r9 ⟨.refl _,R,aq.le_refl _,r8,λ_ _=>rfl,R,λj hj hd=> ?_⟩ ?_ ?_
 ·exfalso;rw[Array.getD_eq_getD_getElem?,Array.getElem?_replicate]at hd;split at hd<;>cases hd
 ·intro dn i o st s0 D H7 ho H8 s1 d8 y1 w1 s2 E C0;rw[e3]at ho d8 ⊢;have C1:=(D.same 1 YP).trans d5;have C3:=(D.same 2 YP).trans d6;have C4:=(D.same 4 YP).trans d7;have go: ∀ (j:Nat),j<7->j=i->o.guard=none->jM Try.prog okF o.op=true->o.dst=some (qO j)->(∀f:World,f.heap=v.heap->(J4 (J2 ⟨st.x,[]⟩) o).run Try.prog f= .ok (.value (u693 V off m A J j)) f)->aa Try.prog (E0 S) true (mC Try.prog (E0 S)) (λ_ _=>True) (Way Try.prog Fin S) 0 st.r [] .over st.F (G (ak 69 y1 (.inRegion _ (i::s0)::_)) l) w1:=λj hj s3 C5 C6 hd s4=>by subst s3;refine aa.lW (u:=u693 V off m A J j) bh Zt ho C5 C6 hd s2 E (λf c=>s4 f (by rw[c,D.vv])) ?_;intro A8 w2 F2 u2 d0 q7 p0 s5;exact d8 _ (D.put j hj d0 q7) _ w2 s5 (aB.set (aB.mono d0 E) p0) (ab C0 (by unfold qO;split<;>omega))
  have d:=λs3 he hb hl=>D.HR _ hl (s1 s3 he hb);have H9:i<7:=by simpa using (Array.getElem?_eq_some_iff.1 ho).1
  rcases (by omega:i=0\/i=1\/i=2\/i=3\/i=4\/i=5\/i=6)with rfl | rfl | rfl | rfl | rfl | rfl | rfl
  all_goals obtain rfl:=L2 ho
  ·exact go 0 YP R R Zs R λf c=>gS R (ay C3) (vx (show f.cell? _=_ by unfold World.cell?;rw[c];exact z9))
  ·exact go 1 YP R R Zs R λf c=>gS R (ay C1) (gq (show f.cell? _=_ by unfold World.cell?;rw[c];exact o7))
  ·exact go 2 YP R R Zs R λf c=>kS R (ay C4)
  ·exact go 3 YP R R Zs R λf c=>Gk R (ay (d ⟨1,.data⟩ YR R YQ)) (ay (d ⟨2,.data⟩ YR R YQ))
  ·exact go 4 YP R R Zs R λf c=>oq R (ay (d ⟨3,.data⟩ YR R YQ)) R
  ·exact go 5 YP R R Zs R λf c=>PI R (ay (d ⟨0,.data⟩ YR R YQ)) (ay (d ⟨4,.data⟩ YR R YQ)) A0
  ·exact go 6 YP R R Zs R λf c=>JV R (ay (d ⟨5,.data⟩ YR R YQ))
 intro dn st D s6 y6 w b p5 s7;have h5:=D.HR 6 YP (s6 6 (by rw[e3];decide));rw[D.rr];rw[D.vv]at b;have s8:=B8.trans D.wx;have s9:=(D.same 0 YP).trans l7;have l9:=(D.same 1 YP).trans d5;have m0:=(D.same 2 YP).trans d6;have m1:=(D.same 4 YP).trans d7;have m2:st.x[5]? =some (R5 R6 m):=h5;have p6:=D.sz;obtain ⟨r6,C7,v6,F6,x6⟩:=st;dsimp only at b p5 s8 s9 l9 m0 m1 m2 p6;refine aa.ah b λw b=> ?_;refine aa.aC b λw b=> ?_;have t0:J2 ⟨y6,[]⟩ (.tmp 0)= .func (.yield Y) #[] #[]:=ay s7;refine aa.go b YR (λ_=>kH (d:=19) R R R (.inl R)) λw b=> ?_;rw[t0];have i6:=aB.set (i:=19) p5 (VR.qH (r:=C7) (.func (.yield Y) #[] #[]) trivial);have p7:(x6.setIfInBounds 19 .nilFunc).size=31:=by simpa using p6
 have t1:(y6.setIfInBounds 19 (.func (.yield Y) #[] #[]))[19]? =some (.func (.yield Y) #[] #[]):=aE (n:=31) (by rw[<-p5.1];exact p6) YQ;have C8:=s8;have d9:=ab (d:=19) (u:= .nilFunc) l9 YQ;have m3:=ab (d:=19) (u:= .nilFunc) m0 YQ;have m4:=ab (d:=19) (u:= .nilFunc) m1 YQ;have m5:=ab (d:=19) (u:= .nilFunc) m2 YQ;generalize x6.setIfInBounds 19 .nilFunc=x7 at i6 p7 d9 m3 m4 m5;generalize y6.setIfInBounds 19 (.func (.yield Y) #[] #[])=y7 at i6 t1 ⊢;refine aa.lW (i:=1) (u:= R7 (some ⟨V,off,none⟩) m A) bh Zt R R Zs R b i6 (λf c=>gS R (ay d9) (gq (show f.cell? _=_ by unfold World.cell?;rw[c];exact o7))) ?_;intro I0 w F8 u8 t2 I1 C9 b;have D1:=C8.trans t2;have i7:=aB.set (i:=20) (aB.mono t2 i6) C9;have m6:=ab (d:=20) (u:= R7 (some ⟨V,off,none⟩) m A) d9 YQ;have m7:=ab (d:=20) (u:= R7 (some ⟨V,off,none⟩) m A) m3 YQ;have e0:=ab (d:=20) (u:= R7 (some ⟨V,off,none⟩) m A) m4 YQ;have m8:=ab (d:=20) (u:= R7 (some ⟨V,off,none⟩) m A) m5 YQ;have e1:=aE (u:= R7 (some ⟨V,off,none⟩) m A) p7 (show 20<31 by decide);have p8:(x7.setIfInBounds 20 (R7 (some ⟨V,off,none⟩) m A)).size=31:=by simpa using p7
 have t3:=ab (d:=20) (u:=u8) t1 YQ;generalize x7.setIfInBounds 20 (R7 (some ⟨V,off,none⟩) m A)=x8 at i7 p8 m6 m7 e0 m8 e1;generalize y7.setIfInBounds 20 u8=y8 at i7 t3 ⊢;refine aa.lW (i:=2) (u:= R5 R6 (0:Nat)) bh Zt R R Zs R b i7 (λf c=>kS R (ay e0)) ?_;intro I2 w F9 u9 t4 I3 D2 b;have D4:=D1.trans t4;have i8:=aB.set (i:=21) (aB.mono t4 i7) D2;have m9:=ab (d:=21) (u:= R5 R6 (0:Nat)) m6 YQ;have n0:=ab (d:=21) (u:= R5 R6 (0:Nat)) m7 YQ;have e5:=ab (d:=21) (u:= R5 R6 (0:Nat)) e0 YQ;have n1:=ab (d:=21) (u:= R5 R6 (0:Nat)) m8 YQ;have e6:=ab (d:=21) (u:= R5 R6 (0:Nat)) e1 YQ;have e7:=aE (u:= R5 R6 (0:Nat)) p8 (show 21<31 by decide);have p9:(x8.setIfInBounds 21 (R5 R6 (0:Nat))).size=31:=by simpa using p8
 have t5:=ab (d:=21) (u:=u9) t3 YQ;generalize x8.setIfInBounds 21 (R5 R6 (0:Nat))=x9 at i8 p9 m9 n0 e5 n1 e6 e7;generalize y8.setIfInBounds 21 u9=y9 at i8 t5 ⊢;refine aa.lW (i:=3) (u:= R5 R6 (0:Nat)) bh Zt R R Zs R b i8 (λf c=>kS R (ay e5)) ?_;intro E7 w I4 t6 n2 E8 t7 b;have t8:=D4.trans n2;have O:=aB.set (i:=22) (aB.mono n2 i8) t7;have e8:=ab (d:=22) (u:= R5 R6 (0:Nat)) m9 YQ;have e9:=ab (d:=22) (u:= R5 R6 (0:Nat)) n0 YQ;have f0:=ab (d:=22) (u:= R5 R6 (0:Nat)) e5 YQ;have H:=ab (d:=22) (u:= R5 R6 (0:Nat)) n1 YQ;have P:=ab (d:=22) (u:= R5 R6 (0:Nat)) e6 YQ;have Q:=ab (d:=22) (u:= R5 R6 (0:Nat)) e7 YQ;have T:=aE (u:= R5 R6 (0:Nat)) p9 (show 22<31 by decide);have f1:(x9.setIfInBounds 22 (R5 R6 (0:Nat))).size=31:=by simpa using p9
 have n3:=ab (d:=22) (u:=t6) t5 YQ;generalize x9.setIfInBounds 22 (R5 R6 (0:Nat))=t9 at O f1 e8 e9 f0 H P Q T;generalize y9.setIfInBounds 22 t6=D5 at O n3 ⊢;refine aa.lW (i:=4) (u:= R5 R6 m) bh Zt R R Zs R b O (λf c=>kS R (ay H)) ?_;intro E9 w I5 u6 n4 F0 u7 b;have v0:=t8.trans n4;have X:=aB.set (i:=23) (aB.mono n4 O) u7;have f2:=ab (d:=23) (u:= R5 R6 m) e8 YQ;have f3:=ab (d:=23) (u:= R5 R6 m) e9 YQ;have f4:=ab (d:=23) (u:= R5 R6 m) f0 YQ;have f5:=ab (d:=23) (u:= R5 R6 m) H YQ;have Z:=ab (d:=23) (u:= R5 R6 m) P YQ;have a0:=ab (d:=23) (u:= R5 R6 m) Q YQ;have h:=ab (d:=23) (u:= R5 R6 m) T YQ;have k:=aE (u:= R5 R6 m) f1 (show 23<31 by decide);have f6:(t9.setIfInBounds 23 (R5 R6 m)).size=31:=by simpa using f1
 have n5:=ab (d:=23) (u:=u6) n3 YQ;generalize t9.setIfInBounds 23 (R5 R6 m)=v1 at X f6 f2 f3 f4 f5 Z a0 h k;generalize D5.setIfInBounds 23 u6=D6 at X n5 ⊢;refine aa.lW (i:=5) (u:= R5 R6 m) bh Zt R R Zs R b X (λf c=>JU R (ay h) (ay k) YP YP) ?_;intro F7 w I6 v2 n6 G0 v3 b;have v4:=v0.trans n6;have a1:=aB.set (i:=24) (aB.mono n6 X) v3;have f7:=ab (d:=24) (u:= R5 R6 m) f2 YQ;have f8:=ab (d:=24) (u:= R5 R6 m) f3 YQ;have L:=ab (d:=24) (u:= R5 R6 m) f4 YQ;have f9:=ab (d:=24) (u:= R5 R6 m) f5 YQ;have a2:=ab (d:=24) (u:= R5 R6 m) Z YQ;have a3:=ab (d:=24) (u:= R5 R6 m) a0 YQ;have a4:=ab (d:=24) (u:= R5 R6 m) h YQ;have a5:=ab (d:=24) (u:= R5 R6 m) k YQ;have a6:=aE (u:= R5 R6 m) f6 (show 24<31 by decide);have g0:(v1.setIfInBounds 24 (R5 R6 m)).size=31:=by simpa using f6
 have n7:=ab (d:=24) (u:=v2) n5 YQ;generalize v1.setIfInBounds 24 (R5 R6 m)=v5 at a1 g0 f7 f8 L f9 a2 a3 a4 a5 a6;generalize D6.setIfInBounds 24 v2=D7 at a1 n7 ⊢;refine aa.lW (i:=6) (u:= R5 R6 (0:Nat)) bh Zt R R Zs R b a1 (λf c=>kS R (ay L)) ?_;intro G1 w I7 v7 n8 G2 v9 b;have w0:=v4.trans n8;have a7:=aB.set (i:=25) (aB.mono n8 a1) v9;have g1:=ab (d:=25) (u:= R5 R6 (0:Nat)) f7 YQ;have g2:=ab (d:=25) (u:= R5 R6 (0:Nat)) f8 YQ;have g3:=ab (d:=25) (u:= R5 R6 (0:Nat)) L YQ;have M:=ab (d:=25) (u:= R5 R6 (0:Nat)) f9 YQ;have a8:=ab (d:=25) (u:= R5 R6 (0:Nat)) a2 YQ;have a9:=ab (d:=25) (u:= R5 R6 (0:Nat)) a3 YQ;have b0:=ab (d:=25) (u:= R5 R6 (0:Nat)) a4 YQ;have b1:=ab (d:=25) (u:= R5 R6 (0:Nat)) a5 YQ;have b2:=ab (d:=25) (u:= R5 R6 (0:Nat)) a6 YQ;have b3:=aE (u:= R5 R6 (0:Nat)) g0 (show 25<31 by decide);have g4:(v5.setIfInBounds 25 (R5 R6 (0:Nat))).size=31:=by simpa using g0
 have n9:=ab (d:=25) (u:=v7) n7 YQ;generalize v5.setIfInBounds 25 (R5 R6 (0:Nat))=w3 at a7 g4 g1 g2 g3 M a8 a9 b0 b1 b2 b3;generalize D7.setIfInBounds 25 v7=D8 at a7 n9 ⊢;refine aa.lW (i:=7) (u:= R5 R6 m) bh Zt R R Zs R b a7 (λf c=>kS R (ay M)) ?_;intro G3 w I8 w4 o0 G4 w5 b;have w6:=w0.trans o0;have b4:=aB.set (i:=26) (aB.mono o0 a7) w5;have g5:=ab (d:=26) (u:= R5 R6 m) g1 YQ;have g6:=ab (d:=26) (u:= R5 R6 m) g2 YQ;have g7:=ab (d:=26) (u:= R5 R6 m) g3 YQ;have g8:=ab (d:=26) (u:= R5 R6 m) M YQ;have b5:=ab (d:=26) (u:= R5 R6 m) a8 YQ;have b6:=ab (d:=26) (u:= R5 R6 m) a9 YQ;have b7:=ab (d:=26) (u:= R5 R6 m) b0 YQ;have b8:=ab (d:=26) (u:= R5 R6 m) b1 YQ;have b9:=ab (d:=26) (u:= R5 R6 m) b2 YQ;have q:=ab (d:=26) (u:= R5 R6 m) b3 YQ;have s:=aE (u:= R5 R6 m) g4 (show 26<31 by decide);have g9:(w3.setIfInBounds 26 (R5 R6 m)).size=31:=by simpa using g4
 have o1:=ab (d:=26) (u:=w4) n9 YQ;generalize w3.setIfInBounds 26 (R5 R6 m)=w7 at b4 g9 g5 g6 g7 g8 b5 b6 b7 b8 b9 q s;generalize D8.setIfInBounds 26 w4=D9 at b4 o1 ⊢;refine aa.lW (i:=8) (u:= R5 R6 m) bh Zt R R Zs R b b4 (λf c=>JU R (ay q) (ay s) YP YP) ?_;intro G5 w I9 w8 o2 G6 w9 b;have z2:=w6.trans o2;have c1:=aB.set (i:=27) (aB.mono o2 b4) w9;have h0:=ab (d:=27) (u:= R5 R6 m) g5 YQ;have h2:=ab (d:=27) (u:= R5 R6 m) g6 YQ;have h3:=ab (d:=27) (u:= R5 R6 m) g7 YQ;have h4:=ab (d:=27) (u:= R5 R6 m) g8 YQ;have t:=ab (d:=27) (u:= R5 R6 m) b5 YQ;have z:=ab (d:=27) (u:= R5 R6 m) b6 YQ;have c2:=ab (d:=27) (u:= R5 R6 m) b7 YQ;have c3:=ab (d:=27) (u:= R5 R6 m) b8 YQ;have B:=ab (d:=27) (u:= R5 R6 m) b9 YQ;have c4:=ab (d:=27) (u:= R5 R6 m) q YQ;have c5:=ab (d:=27) (u:= R5 R6 m) s YQ;have C:=aE (u:= R5 R6 m) g9 (show 27<31 by decide);have h6:(w7.setIfInBounds 27 (R5 R6 m)).size=31:=by simpa using g9
 have o3:=ab (d:=27) (u:=w8) o1 YQ;generalize w7.setIfInBounds 27 (R5 R6 m)=z3 at c1 h6 h0 h2 h3 h4 t z c2 c3 B c4 c5 C;generalize D9.setIfInBounds 27 w8=E2 at c1 o3 ⊢;refine aa.lW (i:=9) (u:= R7 (some ⟨V,off,none⟩) m m) bh Zt R R Zs R b c1 (λf c=>Gl R (ay t) (ay z) (ay B) (ay C) A1) ?_;intro z4 w E3 z5 o4 G7 z6 b;have z7:=z2.trans o4;have c6:=aB.set (i:=28) (aB.mono o4 c1) z6;have h7:=ab (d:=28) (u:= R7 (some ⟨V,off,none⟩) m m) h0 YQ;have h8:=ab (d:=28) (u:= R7 (some ⟨V,off,none⟩) m m) h2 YQ;have h9:=ab (d:=28) (u:= R7 (some ⟨V,off,none⟩) m m) h3 YQ;have q0:=ab (d:=28) (u:= R7 (some ⟨V,off,none⟩) m m) h4 YQ;have i9:=ab (d:=28) (u:= R7 (some ⟨V,off,none⟩) m m) t YQ;have j0:=ab (d:=28) (u:= R7 (some ⟨V,off,none⟩) m m) z YQ;have j1:=ab (d:=28) (u:= R7 (some ⟨V,off,none⟩) m m) c2 YQ;have j2:=ab (d:=28) (u:= R7 (some ⟨V,off,none⟩) m m) c3 YQ;have j3:=ab (d:=28) (u:= R7 (some ⟨V,off,none⟩) m m) B YQ;have j4:=ab (d:=28) (u:= R7 (some ⟨V,off,none⟩) m m) c4 YQ;have j5:=ab (d:=28) (u:= R7 (some ⟨V,off,none⟩) m m) c5 YQ;have j6:=ab (d:=28) (u:= R7 (some ⟨V,off,none⟩) m m) C YQ;have c7:=aE (u:= R7 (some ⟨V,off,none⟩) m m) h6 (show 28<31 by decide);have o5:(z3.setIfInBounds 28 (R7 (some ⟨V,off,none⟩) m m)).size=31:=by simpa using h6
 have o6:=ab (d:=28) (u:=z5) o3 YQ;generalize z3.setIfInBounds 28 (R7 (some ⟨V,off,none⟩) m m)=E4 at c6 o5 h7 h8 h9 q0 i9 j0 j1 j2 j3 j4 j5 j6 c7;generalize E2.setIfInBounds 28 z5=E5 at c6 o6 ⊢;refine cO.look b hY R ⟨R,R⟩ (λw1 h1=>FM (a:= .tmp 28) R R R (ay o6) h1 hp) (λs3 he=>by simpa using eP _ _ s3 he) λw' z8=> ?_;have:=K z4 E3 w' E4 E5 _ z7 z8 o5 h7 h8 h9 c6 (c6.ev c7);rw[e4,eC,e2,eL]at this;exact this
end
section
variable {S:Sx}{x:Array Value}
theorem xK (b:At (E0 S) e v F (vB g) w)(z:v.cell? ⟨J,0,none⟩=some (R7 (some ⟨N,V,none⟩) m n))(B:v.cell? ⟨W,0,none⟩=some (R5 R6 A))(b0:m<=A)(hC:A<=1000000)(k:x.size=31)(Y:x[1]? =some (ptr J))(Z:x[2]? =some (ptr W))(s4:x[4]? =some (R5 R6 (0:Nat)))(hv:aB e x y)
  (K: ∀E q F' w',Ext e E->q.heap=v.heap->At (E0 S) E q F' (vB g) w'->cO a S F' (G (M.finish (.tuple #[])) l) w'):
  cO a S F (G ((ak 69 y [.inRegion um [10,11],.code ud,.inBlock 1,.code ur,.inLoop jH,.inBlock 0]).finish (.bool true)) (M::l)) w:=by
 have eL:jH=jH:=rfl;have e4:um=um:=rfl;have eC:ud=ud:=rfl;have e2:ur=ur:=rfl;conv at eL=>rhs;unfold jH qE;simp only[Try.f69]
 conv at e4=>rhs;unfold um jH qE;simp only[Try.f69]
 conv at eC=>rhs;unfold ud jH qE;simp only[Try.f69]
 conv at e2=>rhs;unfold ur jH qE;simp only[Try.f69]
 rw[e4,bu rfl];have f:=aB.set (i:=29) hv (show VR e (.bool true) (.bool true)from .bool _);change cO a S F (G (ak _ (y.setIfInBounds 29 (.bool true)) _) _) w;have o:(x.setIfInBounds 29 (.bool true)).size=31:=by simpa using k
 have O:=ab (d:=29) (u:= .bool true) Y YQ;have P:=ab (d:=29) (u:= .bool true) Z YQ;have T:=ab (d:=29) (u:= .bool true) s4 YQ;have p:=aE (u:= .bool true) k (show 29<31 by decide);generalize y.setIfInBounds 29 (.bool true)=y1 at f ⊢;generalize x.setIfInBounds 29 (.bool true)=x1 at f o O P T p;obtain ⟨u,X,D⟩:=OI o;rw[D 1 _ O,D 2 _ P,D 4 _ T,D 29 _ p]at X;rw[X]at f;refine aa.fP (i:=11) (R:=λu q=>u= .bool false/\q.heap=v.heap) bh ⟨_,Try.func69⟩ Zt rfl rfl Zs YU YU b f (λH=>aL (r:= .bool false) (w':=aK v H 0) YV ⟨rfl,rfl⟩) ?_;rintro a0 y2 v2 w2 F2 u2 a3 b1 ⟨rfl,c⟩ b j;change aB a0 #[u 0,ptr J,ptr W,u 3,R5 R6 (0:Nat),u 5,u 6,u 7,u 8,u 9,u 10,u 11,u 12,u 13,u 14,u 15,u 16,u 17,u 18,u 19,u 20,u 21,u 22,u 23,u 24,u 25,u 26,u 27,u 28,.bool true,.bool false] _ at j;refine aa.aH b λw b=> ?_;rw[eC];refine aa.go b YR (λ_=>bH (j.bool (t:=30) rfl)) λw b=> ?_;simp only[J6, ↓reduceIte];refine aa.dh b λw b=> ?_;refine aa.cd b λw b=> ?_;rw[e2];have b2:IntKind.i64.wrap (0 + (A:Int))=(A:Int):=Zw;have a9:IntKind.i64.wrap (((0:Nat):Int) + (A:Int))=(A:Int):=Zw;refine aa.ej (Q:=λx' q=>x'= #[u 0,ptr J,ptr W,u 3,R5 R6 A,u 5,u 6,u 7,u 8,u 9,R5 R6 (0:Nat),R5 R6 A,R5 R6 A,u 13,u 14,u 15,u 16,u 17,u 18,u 19,u 20,u 21,u 22,u 23,u 24,u 25,u 26,u 27,u 28,.bool true,.bool false]/\q.heap=v2.heap) bh ⟨_,Try.func69⟩ Zt Zs YU YU b j (λH=> ?_) ?_
 ·have k0:(aK v2 H 0).cell? ⟨W,0,none⟩=some (R5 R6 A):=(aA.heap c).2 _ _ B;clear b hv f j K D X O P T p Y Z s4 k o c z B;unfold ptr;go_wp2
  rfl
 rintro b3 x3 y3 v3 w3 F3 a5 b4 ⟨rfl,s⟩ b I;have C:=s.trans c;have b5: ¬ ((A:Int)<(m:Int)):=YP;refine aa.dw b λw b=> ?_;rw[eL];refine aa.ah b λw b=> ?_;refine aa.ah b λw b=> ?_;refine aa.ej (Q:=λx' q=>x'= #[u 0,ptr J,ptr W,u 3,R5 R6 A,u 5,R5 R6 A,R7 (some ⟨N,V,none⟩) m n,R5 R6 m,.bool false,R5 R6 (0:Nat),R5 R6 A,R5 R6 A,u 13,u 14,u 15,u 16,u 17,u 18,u 19,u 20,u 21,u 22,u 23,u 24,u 25,u 26,u 27,u 28,.bool true,.bool false]/\q.heap=v3.heap) bh ⟨_,Try.func69⟩ Zt Zs YU YU b I (λH=> ?_) ?_
 ·have k0:(aK v3 H 0).cell? ⟨J,0,none⟩=some (R7 (some ⟨N,V,none⟩) m n):=(aA.heap C).2 _ _ z;clear b hv f j K D X O P T p Y Z s4 k o c z B I s C;unfold ptr;go_wp2
  rfl
 rintro a6 x4 y4 v4 w4 F4 a7 b6 ⟨rfl,L⟩ b a8;refine aa.go b YR (λ_=>bH (a8.bool (t:=9) rfl)) λw b=> ?_;simp only[J6, ↓reduceIte];refine aa.go b YR (λ_=>fe rfl) λw b=> ?_;refine aa.gQ b λw b=> ?_;refine aa.go b YR (λ_=>dT Try.func69 rfl) λw b=> ?_;exact K a6 v4 F4 w ((a3.trans a5).trans a7) (L.trans C) b
end
section
variable {Y:Nat}{x:Array Value}
theorem xN (c:At (E0 C) e v F (vB g) w)(D:x.size=77)(T:x[5]? =some (ptr i))(X:x[8]? =some (ptr J))(o:x[10]? =some (ptr W))(p:x[11]? =some (ptr N))(q:x[12]? =some (ptr V))(r:x[44]? =some (R7 (some ⟨n,A,none⟩) m m))(E:aB e x y)(Z:g Y=some (.loop O))(H:C.n<=Y)(hr:O.state= .ready)(d: ∀n ob,g n=some ob->uq ob)
  (K: ∀j s z B b y',Ext e j->ar v s->At (E0 C) j s z (vB λn=>if n=Y then some (.loop {O with state:= .busy})else g n) B->Bx s v.heap.size (R7 (some ⟨n,A,none⟩) m m) 24->b.size=77->b[5]? =some (ptr i)->b[8]? =some (ptr J)->b[10]? =some (ptr W)->b[11]? =some (ptr N)->b[12]? =some (ptr V)->b[13]? =some (ptr v.heap.size)->aB j b y'->cO a C z (G (aR (some Y,[]) 17 y' [.code jZ]) l) B):
  cO a C F (G (aR (some Y,[]) 17 y [.code lF,.beginRound,.code jZ]) l) w:=by
 have eA:lF=lF:=rfl;conv at eA=>rhs;unfold lF km;simp only[Try.f17]
 rw[eA];obtain ⟨u,I,k⟩:=lC D;rw[k 5 _ T,k 8 _ X,k 10 _ o,k 11 _ p,k 12 _ q,k 44 _ r]at I;rw[I]at E;refine aa.lY (Q:=λb s=>b= #[u 0,u 1,u 2,u 3,u 4,ptr i,u 6,u 7,ptr J,u 9,ptr W,ptr N,ptr V,ptr v.heap.size,u 14,u 15,u 16,u 17,u 18,u 19,u 20,u 21,u 22,u 23,u 24,u 25,u 26,u 27,u 28,u 29,u 30,u 31,u 32,u 33,u 34,u 35,u 36,u 37,u 38,u 39,u 40,u 41,u 42,u 43,R7 (some ⟨n,A,none⟩) m m,u 45,u 46,u 47,u 48,u 49,u 50,u 51,u 52,u 53,u 54,u 55,u 56,u 57,u 58,u 59,u 60,u 61,u 62,u 63,u 64,u 65,u 66,u 67,u 68,u 69,u 70,u 71,u 72,u 73,u 74,u 75,u 76]/\s.heap=v.heap.push (.cells #[R7 (some ⟨n,A,none⟩) m m] 24)) bh ⟨_,Try.func17⟩ Zt Zs YU YU c E (λtp=> ?_) ?_
 ·clear c E K k I T X o p q r Z hr d;unfold ptr;go_wp2
  exact ⟨R,R⟩
 rintro L x2 y2 v2 w2 F2 M a0 ⟨rfl,f⟩ c P;refine cO.put (o':= .loop {O with state:= .busy}) c Z H trivial trivial d R ⟨R,R⟩ (λw1 h1=>FI h1 hr) (λa1 he=>by simpa using eP _ _ a1 he) λz B t=> ?_;exact K L v2 z B _ y2 M (ar.push f) t (Bx.new f) R R R R R R R P
end
theorem At.forget(h:At E e v F (vB g) w):At E e v F bO w:=⟨h.bQ,h.fp,h.fg,h.cells.sub (λ_ _ h=>h) (λ_ _ _ _ h=>by cases h) (λ_ _ h=>by cases h),pQ _ _⟩
section
variable {bk:Nat->Option Obj}{g bM:Nat}{Z:Nat->C2}{x:Array Value}
theorem uY (c:At (E0 C) e v F (vB bk) w)(E:x.size=77)(p:x[10]? =some (ptr bM))(V:ot v g m m bM Z)(H:aB e x y)(W:bk n=some (.deferred (some [])))(r:C.n<=n)(X:bk (n + 1)=some (.loop O))(Y:O.state= .ready)(s:O.pending=none)(j: ∀b f,bk b=some f->uq f)
  (K: ∀o D F' w' z,Ext e o->D.heap=v.heap->At (E0 C) o D F' bO w'->VR o (R7 (some ⟨g,0,none⟩) m m) z->cO a C F' (G (M.finish (.tuple #[z,R5 R6 0])) l) w'):
  cO a C F (G ((aR (none,[⟨.collected n,#[]⟩]) 17 y [.inRangeFunc (n + 1),.inBlock 0,.code GO]).finish (.tuple #[])) (M::l)) w:=by
 have eU:GO=GO:=rfl;conv at eU=>rhs;unfold GO CP;simp only[Try.f17]
 rw[AY,eU];refine cO.put (o':= .loop {O with state:= .exhausted}) c X (Nat.le_succ_of_le r) trivial trivial j R ⟨R,R⟩ (λw1 I=>yJ I Y s) (λJ L=>by simpa using eP _ _ J L) λF1 w c=> ?_;have d: ∀b f,(if b=n + 1 then some (Obj.loop {O with state:= .exhausted})else bk b)=some f->uq f:=λb f h=>by
  split at h
  ·cases h;trivial
  grind
 have i:(if n=n + 1 then some (Obj.loop {O with state:= .exhausted})else bk n)=some (.deferred (some [])):=by rw[if_neg YP];exact W
 obtain ⟨bk1,k⟩: ∃bk1:Nat->Option Obj,bk1=λb=>if b=n + 1 then some (Obj.loop {O with state:= .exhausted})else bk b:=⟨_,R⟩
 rw[<-k]at c;replace i:bk1 n=some (.deferred (some [])):=by rw[k];exact i
 replace d: ∀b f,bk1 b=some f->uq f:=YS;obtain ⟨u,N,hu⟩:=lC E;rw[hu 10 _ p]at N;rw[N]at H;refine aa.go c YR (λ_=>ld) λw c=> ?_;refine aa.go c YR (λ_=>gK) λw c=> ?_;refine aa.lY (Q:=λx' D=>x'= #[u 0,u 1,u 2,u 3,u 4,u 5,R7 (some ⟨g,0,none⟩) m m,R5 R6 0,u 8,u 9,ptr bM,u 11,u 12,u 13,u 14,u 15,u 16,u 17,u 18,u 19,u 20,u 21,u 22,u 23,u 24,u 25,u 26,u 27,u 28,u 29,u 30,u 31,u 32,u 33,u 34,u 35,u 36,u 37,u 38,u 39,u 40,u 41,u 42,u 43,u 44,u 45,u 46,u 47,u 48,u 49,u 50,u 51,u 52,u 53,u 54,u 55,u 56,u 57,u 58,u 59,u 60,u 61,u 62,u 63,u 64,u 65,u 66,u 67,u 68,u 69,u 70,u 71,u 72,u 73,u 74,u 75,R7 (some ⟨g,0,none⟩) m m]/\D.heap=v.heap) bh ⟨_,Try.func17⟩ Zt Zs YU YU c H (λtp=> ?_) ?_
 ·have k0:(aK v tp 0).cell? ⟨bM,0,none⟩=some (R7 (some ⟨g,0,none⟩) m m):=V.c;clear c H K hu N p W X Y s j d i V;unfold ptr;go_wp2
  rfl
 rintro P x2 y2 v2 w2 F2 T a0 ⟨rfl,A⟩ c B;refine aa.go c YR (λ_=>Mj (q:=(none,[⟨.collected n,#[]⟩]))) λw c=> ?_;refine cO.put (o':= .deferred none) c i r trivial trivial d R ⟨R,R⟩ (λw1 I=>Jh I) (λJ L=>by simpa using eP _ _ J L) λF3 w c=> ?_;refine aa.go c YR (λ_=>mZ Try.func17 R) λw c=> ?_;have h7:y2.getD 7 U= R5 R6 0:=B.int (t:=7) R;rw[h7];exact K P v2 F3 w _ T A c.forget (B.ev (t:=6) R)
end
section
variable {fn:FuncId}
theorem II{a:List Nat}{e:Func}{c:K9}{args:Array K1}{h:Array P0}(t:r[i]? =S o)(u:o.guard=none)(b:o.op= .call {callee:= .value (.func f),args,argTypes:=h})(j:P.funcs[f]? =S e)(d:(e.name== "runtime.NumGoroutine")=false)(m:e.body=S c):
  K3 P p (G (aR q fn y (.inRegion r (i::a)::k)) l) w= .go (G (ak f (args.map (J2 ⟨y,[]⟩) ++ J5 (e.ntmps - args.size) U) [.code c]) (aR q fn y (.inRegion r (i::a)::k)::l)) w #[]:=by
 have n: ¬e.name= "runtime.NumGoroutine" :=by simpa using d
 have s: ¬e.body=none:=by rw[m];simp
 have v:L1 o (yielded r y)=true:=by unfold L1;rw[u]
 have g:N5 (aR q fn y (.inRegion r (i::a)::k))=J2 ⟨y,[]⟩:=by funext z;cases z<;>rfl
 have x:(J4 (J2 ⟨y,[]⟩) o).run P w= .ok (.enter f (args.map (J2 ⟨y,[]⟩))) w:=by unfold J4;simp only[b,O6];simp[J2,K8,Q2,Q5,j,n,s]
 have A:(J4 (J2 ⟨y,[]⟩) o).events P w #[]= #[]:=by unfold J4;simp only[b,O6];simp[J2,K8,Q2,Q5,j,n,s]
 obtain ⟨B,C⟩:=q;simp only[aR]at g;simp only[G,K3,aR,L3,t,K5,L6,v,if_true,Q9,Q7];rw[b];cases B<;>simp[stepG.apply,g,x,A,Frame.enter,j,m,ak,L5,seen_none]
theorem vY{a:List Nat}(b:r[i]? =some o):(aR q f y (.inRegion r (i::a)::k)).finish u=aR q f (match o.dst with | some d=>y.setIfInBounds d u | none=>y) (.inRegion r a::k):=by simp only[aR,Frame.finish,b,Option.bind_some];rfl
end
