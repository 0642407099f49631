/- WholeBanks: several filters over the same samples, by however many goroutines: Run, Pipe, Mix and Play answer as the filters alone do; for all filters out of bytes, all samples, all turns and every number of goroutines. No condition. -/
import Derived.Test.YtheopdnafbkhpaaQa
import Derived.Test.YtheopdnafbkhpaaQ5
import Derived.Conc.LeavingOf
set_option maxRecDepth 100000
set_option maxHeartbeats 8000000
set_option linter.unusedVariables false
set_option linter.unusedSimpArgs false
open Go renaming TypeId->g4,sameLayout->g2,sized_slice->g3
open Go.ChangeSpec renaming post_blind->g6,witness6->g7
open Go.Conc renaming solo->h1
open Go.DataW renaming Trod->g9
open Go.DataW.Whole renaming of_heap->g8
open Go.Value renaming okWide->g5
open Option renaming some->S
namespace Go.Proofs.Ytheopdnafbkhpaa
open Go.RowKit
variable {W:World}{e:TypeId}
theorem ZB{p:Prop}(h:p:=by kernel_rfl):p:=h
section
open Go.ChangeShapes Go.WideShapes Go.ChangeAt
theorem Try.pA:Try.prog.cellsOf 5=1:=ZB
theorem Try.AQ:Try.prog.cellsOf 44=1:=ZB
theorem Try.uD:Try.prog.bytesOf 5=1:=ZB
theorem Try.AP:Try.prog.bytesOf 44=8:=ZB
theorem Iu(g:g2 Try.prog Try.prog.depth 4 e=false)(h: ∀m f,Try.prog.underlying e≠S (.array m f))(d c a n:Nat):liesAt Try.prog d 4 c a e n=false:=by
 have b: ∀d,rowAt Try.prog (g2 Try.prog Try.prog.depth · e) d 4 c a n=false:=λd=>by
  cases d with
  | zero=>rfl
  | succ d=>unfold rowAt;simp_all
 cases d with
 | zero=>rfl
 | succ d=>unfold liesAt;grind
theorem oN(i:W.ShapedOpen Try.prog){b n:Nat}{a:Addr}(k:g2 Try.prog Try.prog.depth 4 e=false)(l: ∀m p,Try.prog.underlying e≠some (.array m p))(h:W.has Try.prog .any b a e n):0<a.block/\ ∃c t f,W.heap[a.block]? =some (.cells c t f):=by
 obtain ⟨_,_,q,cells,d,j⟩:=h;unfold World.shape? at d;cases g:W.heap[a.block]? with
 | none=>grind
 | some o=>
  cases o with
  | cells c t f=>rw[g]at d;cases d;refine ⟨Nat.pos_of_ne_zero λr=> ?_,c,_,f,R⟩;obtain ⟨u,s,_⟩:=i.1 0 #[.bool false] 4 (of_decide_eq_true ZB) ZB;rw[r,s]at g;cases g;rw[Iu k l]at j;cases j
  | _=>rw[g]at d;cases d
theorem mU {H:Type}{a:g4×Value->H}{j:World}{v:Value}{d:DataW H}{g:List MemPlace}(m:Try.prog.readableRec e=true)(c:e<Try.prog.types.size)(h:g9 a Try.prog W 0 (λ_=>true) true e v d g)(k:(S0 W).old j)(i: ∀x∈g,x.block<W.heap.size):
  g9 a Try.prog j 0 (λb=>decide (b<W.heap.size)) true e v d g:=
 WideElems.Trod_stays Try.laidOut m c h (λx l=>by
  have f:=i x l;cases x with
  | cell b o=>exact World.cell?_of_block (w:=W) (k.2.1 b f)
  | map b=>exact k.2.1 b f) λx l=>YS
theorem BO {f:World}(b:(S0 W).old f)(d:MemPlace->Prop):W.keptBut f d:=by
 refine ⟨b.2.2.1,b.2.2.2,λi g=> ?_⟩;rw[b.2.1 i g];show match W.heap[i]?,W.heap[i]? with | some (.cells c t fr),some (.cells k l h)=>_ | some (.map m e),some (.map j a)=>_ | o,n=>_
 grind
theorem lb {P:Program}{b l c:Nat}{a:Addr}{t:g4}(d:P.underlying t=S (.slice e))(h:g5 P W .any b t (.slice (S a) l c)):W.has P .any b a e c:=by simp only[g5,d,Cell.okWide,Cell.ok]at h;exact h.2.2
theorem Ez:g2 Try.prog Try.prog.depth 4 5=false:=ZB
theorem LC:g2 Try.prog Try.prog.depth 4 44=false:=ZB
theorem xm (m:Nat)(a:g4):Try.prog.underlying 5≠S (.array m a):=YR
theorem GS (m:Nat)(a:g4):Try.prog.underlying 44≠S (.array m a):=YR
theorem yr(a:W.ShapedOpen Try.prog):0<W.heap.size:=by obtain ⟨b,c,_⟩:=a.1 0 #[.bool false] 4 (of_decide_eq_true ZB) ZB;grind
theorem nk (os:Os)(r:os.Started)(H:Type)(enc:g4×Value->H):
  ReturnsInLeavingWide {} Try.checked os 3 .any (Rows.wholeBanksSpec.pre6 enc Try.prog Try.f3 Rows.wholeBanksRow.domain false) (Rows.wholeBanksSpec.post enc Try.prog Try.f3 false true false false):=by
 refine returnsInLeavingWide_of_good (C:=Try.checked) ZB r
  (g7 (enc:=enc) (C:=Try.checked) false ⟨#[],#[.slice none 0 0,.slice none 0 0,.slice none 0 0,.int .u8 0,.slice none 0 0],[]⟩ 8 ZB ZB ZB ZB) ?_
 intro w s i _ k _ a3 u _;obtain ⟨_,_,_,a5,D,_,_,_,_,y⟩:=a3;obtain rfl:a5=Try.f3:=Option.some.inj (D.symm.trans Try.func3);obtain ⟨ds,gs,z,hw,_⟩:=u.1;have L:=g8 (w':=w.forCall s i) YV hw;have A:(DataW.weightsEach Try.prog (Try.f3.params.toList ++ Rows.wholeBanksSpec.plain.varTypes Try.prog) (ds ++ gs)).all (· <=reachBytes)=true:=u.2.weights hw;have d: ∀ (j:Nat) t v,Try.f3.params[j]? =S t->i.args[j]? =S v->Value.okWide Try.prog (w.forCall s i) .any w.heap.size t v:=y;replace k:(w.forCall s i).ShapedOpen Try.prog:=k;suffices F: ∀ (W:World)(base:Nat)(args:Array Value),W.ShapedOpen Try.prog->(∀ (j:Nat) t v,Try.f3.params[j]? =S t->args[j]? =S v->Value.okWide Try.prog W .any base t v)->DataW.Whole enc Try.prog Try.f3.params.toList Rows.wholeBanksSpec.vars false W args.toList ds gs z->
   ∃N g o w' K,runNT Try.prog (N + 1) (h1 (Conc.G (Frame.enter Try.prog 3 args .normal) []) W) #[]=(.ended o w',K)/\runN Try.prog N (h1 (Conc.G (Frame.enter Try.prog 3 args .normal) []) W)= .next g/\step Try.prog g= .ended o w'/\
    Conc.Good Try.prog (λv W'=>Rows.wholeBanksSpec.post enc Try.prog Try.f3 false true false false W args v W') g o w' K by
  obtain ⟨N,g,o,w',K,V,X,h3,Y⟩:=F _ _ _ k d L;exact ⟨N,g,o,w',K,V,X,h3,Y.mono λv hp=>g6 hp⟩
 clear y d L k D u hw;intro W base args k d L;have G:=L;obtain ⟨p,q,M,hV,rfl,_,_⟩:=L;have hA:=M;rw[Try.params3]at hA d A;obtain ⟨v0,e0,d0,e5,p0,q0,a6,rfl,rfl,h0,r0⟩:=trodAll_cons hA;obtain ⟨v1,e6,d1,e7,p1,q1,rfl,rfl,rfl,V,r1⟩:=trodAll_cons r0;obtain ⟨v2,e8,d2,e9,p2,q2,rfl,rfl,rfl,X,r2⟩:=trodAll_cons r1;obtain ⟨v3,f3,d3,f5,p3,q3,rfl,rfl,rfl,h3,r3⟩:=trodAll_cons r2;obtain ⟨v4,f6,d4,f7,p4,q4,rfl,rfl,rfl,Y,r4⟩:=trodAll_cons r3;obtain ⟨rfl,rfl,rfl⟩:=trodAll_nil r4;obtain rfl:args= #[v0,v1,v2,v3,v4]:=YS;obtain ⟨rfl,rfl⟩:=trodVars_none hV;obtain ⟨a0,l0,c0,rfl⟩:=okWide_slice Try.underlying22 (d 0 22 v0 R R);obtain ⟨a1,l1,c1,rfl⟩:=okWide_slice Try.underlying22 (d 1 22 v1 R R);obtain ⟨a2,l2,c2,rfl⟩:=okWide_slice Try.underlying23 (d 2 23 v2 R R);obtain ⟨a4,l4,c4,rfl⟩:=okWide_slice Try.underlying22 (d 4 22 v4 R R);have a7:=h0;have a8:=V;have a9:=X;have b0:=Y;obtain ⟨x3,rfl,rfl,rfl,w3⟩:=open_int Try.underlying5 (d 3 5 v3 R R) h3;obtain ⟨f0,b1⟩:=h0;obtain ⟨f1,b4⟩:=V;obtain ⟨f2,b5⟩:=X;obtain ⟨f4,b6⟩:=Y;clear M;simp only[List.append_nil]at G;obtain ⟨Z0,O,b7,b8,b9⟩:=Aq Try.underlying22 Try.underlying5 Try.pA b1;obtain ⟨Z1,P,c3,c5,c6⟩:=Aq Try.underlying22 Try.underlying5 Try.pA b4;obtain ⟨Z2,I,c7,Q,c9⟩:=Aq Try.underlying23 Try.underlying44 Try.AQ b5;obtain ⟨Z4,d5,d6,d7,_⟩:=Aq Try.underlying22 Try.underlying5 Try.pA b6;have k0:l0<=140737488351232:=by
  rcases b9 with h | ⟨sp,h⟩
  ·omega
  ·have:=g3 A (j:=0) (t:=22) (e:=5) R (by rw[h];rfl) Try.underlying22;rw[Try.uD]at this;simp only[lits,List.length_map,O,reachBytes]at this;omega
 have k1:l1<=140737488351232:=by
  rcases c6 with h | ⟨sp,h⟩
  ·omega
  ·have:=g3 A (j:=1) (t:=22) (e:=5) R (by rw[h];rfl) Try.underlying22;rw[Try.uD]at this;simp only[lits,List.length_map,P,reachBytes]at this;omega
 have k2:l2 * 8<=140737488351232:=by
  rcases c9 with h | ⟨sp,h⟩
  ·omega
  ·have:=g3 A (j:=2) (t:=23) (e:=44) R (by rw[h];rfl) Try.underlying23;rw[Try.AP]at this;simp only[lits,List.length_map,I,reachBytes]at this;omega
 have B: ∀x∈p0 ++ (p1 ++ (p2 ++ p4)),x.block<W.heap.size:=λx E=>by simpa using G.lt x (by assumption)
 have bb: ∀ {a:Option Addr}{l:Nat}{Z:List Int},Z.length=l->(∀n∈Z,(Lit.int .u8 n).wf=true)->(∀j,j<l-> ∃b m,a=S ⟨b,m,none⟩/\b<W.heap.size/\W.cell? ⟨b,m + j,none⟩=S (.int .u8 (Z.getD j 0)))->eb W a l (λj=>(Z.getD j 0).toNat):=λ{a l Z} zl zw zc j J=>by obtain ⟨b,m,e,hb,hc⟩:=zc j J;have h:=yi zl zw wf_u8 j J;grind
 have b2: ∀j,j<l2-> ∃b m,a2=S ⟨b,m,none⟩/\b<W.heap.size/\W.cell? ⟨b,m + j,none⟩=S (.int .u64 ((λj=>(Z2.getD j 0).toNat) j:Nat)):=λj J=>by obtain ⟨b,m,e,hb,hc⟩:=c7 j J;have h:=yi I Q wf_u64 j J;grind
 have d8: ∀j,(λj=>(Z2.getD j 0).toNat) j<18446744073709551616:=λj=>by
  by_cases J:j<l2
  ·have h:=yi I Q wf_u64 j J;grind
  ·show (Z2.getD j 0).toNat<_;rw[List.getD_eq_getElem?_getD,List.getElem?_eq_none YP];decide
 have d9: ∀a,a0=S a\/a1=S a\/a2=S a\/a4=S a->0<a.block/\ ∃c e f,W.heap[a.block]? =S (.cells c e f):=λa h=>by
  rcases h with rfl | rfl | rfl | rfl
  ·exact oN k Ez xm (lb Try.underlying22 (d 0 22 _ R R))
  ·exact oN k Ez xm (lb Try.underlying22 (d 1 22 _ R R))
  ·exact oN k LC GS (lb Try.underlying23 (d 2 23 _ R R))
  ·exact oN k Ez xm (lb Try.underlying22 (d 4 22 _ R R))
 have f8:=wf_u8 x3 w3;obtain ⟨y3,rfl⟩: ∃y3:Nat,x3=(y3:Int):=⟨x3.toNat,YP⟩;obtain ⟨N,g,o,w',K,e1,e2,e3,e4⟩:=AL (b3:=y3) (c0:=c0) (c1:=c1) (c2:=c2) (c4:=c4) (yr k) d9 d8 k2 b2 k0 k1 (bb O b8 b7) (bb P c5 c3) (bb d5 d7 d6) YP;refine ⟨N,g,o,w',K,e1,e2,e3,e4.mono ?_⟩;rintro v ⟨rfl,T⟩;exact ⟨_,_,_,[],_,[],G,trodAll_mk1 (shut_bool Try.underlying4 true),trodAll_cons_mk (mU ZB (of_decide_eq_true ZB) a7 T (λx E=>B x (by simp[E]))) (trodAll_cons_mk (mU ZB (of_decide_eq_true ZB) a8 T (λx E=>B x (by simp[E]))) (trodAll_cons_mk (mU ZB (of_decide_eq_true ZB) a9 T (λx E=>B x (by simp[E]))) (trodAll_cons_mk (shut_int Try.underlying5 w3) (trodAll_cons_mk (mU ZB (of_decide_eq_true ZB) b0 T (λx E=>B x (by simp[E]))) trodAll_mk0)))),R,BO T _,λh=>by cases h⟩
theorem wholeBanks_holds:Rows.WholeBanksSaid:=
 OpenClaim.holds_of_wide_leaving 3 Try.f3 R R R R R R R ⟨R,R,R,R,R⟩ R R R R R ZB Try.func3 ZB
  (of_decide_eq_true ZB) (by unfold Func.isWrapper;first | (rw[if_pos (by decide +kernel)];kernel_rfl) | (rw[if_neg (by decide +kernel)];exact ⟨rfl,rfl⟩))
  (λc a H b _=>nk c a H b)
#print axioms wholeBanks_holds
end
