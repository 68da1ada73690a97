/- By an AI agent. -/
import Derived.Test.YtcllhobffhkafaaGreatDoorListFnd
set_option maxRecDepth 100000
set_option maxHeartbeats 16000000
open Go.Proofs.Tryz
open Bool renaming false->Qa,true->Qe
open Go renaming World->A,Value->Qg,Addr->Qk,Calls->Qr,bodyPost_ret->Qs,results->Qt,cell_of_one->Qx,Ending->Qy,maxLen->Q1,lt_of_block->Q4
open Go.Ending renaming returned->Qj
open Go.IntKind renaming i64->Z
open Go.Lib renaming cut->Qc,hasSuffix->Qp
open Go.Obj renaming cells->G
open Go.Proofs.Tryz renaming prog->Ql,results170->Qu,func260->Q2,ntmps260->Q3,func261->Q5,func172->Q6,ntmps172->Q7
open Go.RowKit.Below renaming refl->Qo
open Go.Value renaming int->U,slice->S,string->J,tuple->Qd,bool->Qf,pointer->Qi,agg->Qm,iface->Qv,nilIface->QD,ownBlock->QE
open Go.World renaming cell?_setCell_other->Qh
open List renaming length_append->Qw,length_cons->Qz,length_nil->Q0,getElem_cons_succ->Q8,getElem_cons_zero->Q9,length_eq_zero_iff->QC
open Nat renaming le_refl->Qb,le_trans->Qq,zero_add->QA,reduceAdd->QB,succ_ne_zero->QF
open Option renaming none->O,some->I
open Option.some renaming inj->Qn
open Or renaming inr->H,inl->V
namespace Go.Proofs.YtcllhobffhkafaaGreatDoor
open Go.RowKit Go.Extern.Stop Go.Stop Go.Extern Go.Sort Go.Shelf Go.Lib
theorem qE {f:Fl} (h:At f=0):f.1.size<=30/\f.2.1.size<=30:=by
 obtain⟨g,n,c,b,j⟩:=D0 h;have d:f.1.data.toList.length<=16:=by
  rw[(El c).1];have:=(Fb (El c).2.1).2;cases g<;>simp [AE,DX,DY]<;>omega
 have i:f.2.1.data.toList.length<=12:=by
  unfold Do at b;cases g
  ·simp only[Bool.false_eq_true,if_false,DC,Bool.and_eq_true,decide_eq_true_eq]at b;omega
  ·simp only[if_true,decide_eq_true_eq]at b;rw[b];decide
 rw[AA]at d i;omega
theorem qF {l:List UInt8} (h:¬20000<l.length):Hq l=if (Qc l [10]).2.2=Qa then (AC,1,O) else match Fe (Qc l [10]).1 with
 | none=>(AC,1,O)
 | some (x1,x2,x3,x4,x5,op,g)=>if g≠Ba (Qc l [10]).2.1 then (AC,10,O) else
  if (Co (Qc l [10]).2.1).2.1≠0 then (AC,(Co (Qc l [10]).2.1).2) else
  if (Am (x1,x2,x3,x4,x5,Ab op,(Co (Qc l [10]).2.1).1)).1≠0 then (AC,Am (x1,x2,x3,x4,x5,Ab op,(Co (Qc l [10]).2.1).1)) else
  ((x1,x2,x3,x4,x5,Ab op,(Co (Qc l [10]).2.1).1),0,O):=by
 unfold Hq;rw[if_neg h];rfl
theorem qG (b:List UInt8):Eb (Co b).1:=fun f hf=>qE (iI b f hf)
def qH (w:A) (o:Option (Int×Int×Int×Int×Int×List UInt8×Int)) (e:Qy) (w':A):Prop:=BL w w'/\match o with
 | some (x1,x2,x3,x4,x5,op,g)=>e=Qj (Qd #[A9 (x1,x2,x3,x4,x5,Ab op, []) (S O 0 0),U Z g,Qf Qe])
 | none=>e=Qj (Qd #[A9 AC (S O 0 0),U Z 0,Qf Qa])
theorem DT {W:A} {b R o:Nat} {v c d f g i j k:Qg} (h:b≠R) (l:W.cell? ⟨b,o,O⟩=I v):(((((((W.setCell ⟨R,0,O⟩ c).setCell ⟨R,1,O⟩ d).setCell ⟨R,2,O⟩ f).setCell ⟨R,3,O⟩ g).setCell ⟨R,4,O⟩ i).setCell ⟨R,5,O⟩ j).setCell ⟨R,6,O⟩ k).cell? ⟨b,o,O⟩=I v:=by
 rw[Qh _ _ _ _ (by simp),Qh _ _ _ _ (by simp),Qh _ _ _ _ (by simp),Qh _ _ _ _ (by simp),Qh _ _ _ _ (by simp),Qh _ _ _ _ (by simp),Qh _ _ _ _ (by simp)];exact l
theorem MK {W w:A} {R:Nat} {b c d f g i j:Qg} (h:Below R w W):Below R w (((((((W.setCell ⟨R,0,O⟩ b).setCell ⟨R,1,O⟩ c).setCell ⟨R,2,O⟩ d).setCell ⟨R,3,O⟩ f).setCell ⟨R,4,O⟩ g).setCell ⟨R,5,O⟩ i).setCell ⟨R,6,O⟩ j) :=
 ((((((h.setCell (Qb _) _).setCell (Qb _) _).setCell (Qb _) _).setCell (Qb _) _).setCell (Qb _) _).setCell (Qb _) _).setCell (Qb _) _
theorem Al.zero {W:A} {b:Nat} (h:Al W b AC (S O 0 0)):W.cell? ⟨b,0,O⟩=I (U Z 0)/\W.cell? ⟨b,1,O⟩=I (U Z 0)/\W.cell? ⟨b,2,O⟩=I (U Z 0)/\W.cell? ⟨b,3,O⟩=I (U Z 0)/\W.cell? ⟨b,4,O⟩=I (U Z 0)/\W.cell? ⟨b,5,O⟩=I (J ⟨#[]⟩)/\W.cell? ⟨b,6,O⟩=I (S O 0 0)/\∀o,W.frozen? ⟨b,o,O⟩=Qa:=by
 obtain⟨c,d,f,g,i,j,k⟩:=h.cells;exact⟨c,d,f,g,i,j,k,fun o=>h.fz o⟩
theorem qI (s:ByteArray) (w:A) (a:Nat->Qk) (h:BZ w a) (hs:s.size<=20000) :
  Qr Ql 170 #[J s] w (qH w (Fe s.data.toList)):=by
 have an:BL w (w.alloc (G #[U Z 0,U Z 0,U Z 0,U Z 0,U Z 0,J ⟨#[]⟩,S O 0 0] 40)):=Af _ _;have aw:Al (w.alloc (G #[U Z 0,U Z 0,U Z 0,U Z 0,U Z 0,J ⟨#[]⟩,S O 0 0] 40)) w.heap.size AC (S O 0 0):=Al.new w AC (S O 0 0);have ao:=J5 s _ a (h.below an) (by omega);generalize hR:Fe s.data.toList=R;have HR:Hid (Fe s.data.toList=R):=hR;clear hR;have ap:=J4 s.data.toList
 go_enter func170,ntmps170
 go_wp2_with fail
 generalize w.alloc (G #[U Z 0,U Z 0,U Z 0,U Z 0,U Z 0,J ⟨#[]⟩,S O 0 0] 40)=WA at an aw ao ⊢;refine ao.mono ?_;rintro e w1 ⟨v1,ts,rfl,a6,af,ay⟩;clear ao;have ah:BL w w1:=Ad an ay;have ab:Hid (Al w1 w.heap.size AC (S O 0 0)):=aw.below ay;have a1:Hid _:=ab.out.lt;obtain⟨b,rfl,m⟩:=a6;by_cases h8:ts.length=8
 case neg =>
  have n:R=O:=HR.out.symm.trans (iD (fun e=>h8 (by rw[<-e,<-af,List.length_map])));subst n;generalize ts.length=L at h8 ⊢;have a9:¬(L:Int)=8:=by omega
  clear af ap m h8 HR;obtain⟨C,D,E,F,M,N,P,yf⟩:=ab.out.zero;have s0:=Ah C;have s1:=Ah D;have s2:=Ah E;have s3:=Ah F;have s4:=Ah M;have s5:=Ah N;have s6:=Ah P;go_wp2;exact Qs (v:=Qd #[(Qm #[U Z 0,U Z 0,U Z 0,U Z 0,U Z 0,J ⟨#[]⟩,S O 0 0]),U Z 0,Qf Qa]) (by simp[Qt,Qu,go_sem,C,D,E,F,M,N,P]) rfl ⟨ah,rfl⟩
 case pos =>
 obtain⟨K,T1,T2,T3,T4,T5,p,T7,rfl⟩:=iE h8;have hw:AY s.data.toList= [K.data.toList,T1.data.toList,T2.data.toList,T3.data.toList,T4.data.toList,T5.data.toList,p.data.toList,T7.data.toList]:=by rw[<-af];rfl
 have aq:=HR.out;rw[iG hw]at aq;have ar:∀t∈ [K,T1,T2,T3,T4,T5,p,T7],t.size<=20000:=fun t f=>by
  have:=ap t.data.toList (by rw[<-af];exact List.mem_map.2 ⟨t,f,rfl⟩);rw[AA,AA]at this;omega
 have a2:=ar T7 (by simp);have c0:=m 0 (by simp);have c6:=m 6 (by simp);have c7:=m 7 (by simp);simp only[Q8,Q9]at c0 c6 c7;have ai:=L0 b 1 7 [T1,T2,T3,T4,T5] w1 a (h.below ah) (fun j hj=>by
  have a3:j+1 < [K,T1,T2,T3,T4,T5,p,T7].length:=by simp at hj ⊢;omega
  have:=m (j+1) a3;rw[Nat.add_comm 1 j];rw[this]
  match j,hj with
  | 0,_=>rfl
  | 1,_=>rfl
  | 2,_=>rfl
  | 3,_=>rfl
  | 4,_=>rfl
  | k+5,hj=>exact absurd hj (by simp only[Qz,Q0];omega)) (fun t f=>by
   have:=ar t (by
    simp only[List.mem_cons,List.not_mem_nil,or_false]at f ⊢;rcases f with rfl | rfl | rfl | rfl | rfl<;>simp)
   unfold Q1;omega) (by simp)
 have aj:=fun W (hW:BZ W a)=>Lz T7 W a hW (by unfold Q1;omega);have ak:Hid ((match Hp T1.data.toList T2.data.toList T3.data.toList T4.data.toList T5.data.toList T7.data.toList with
  | some (r,u,y,z,B,g)=>if K.data.toList=FC then I (r,u,y,z,B,p.data.toList,g) else O
  | none=>O)=R):=aq
 clear hw af ap m h8 ar aq a2 HR;simp only[Qz,Q0,QA,QB]at ai ⊢;by_cases hk:K.data.toList=FC
 case neg =>
  have n:R=O:=by
   rw[<-ak.out];split
   ·rw[if_neg hk]
   ·rfl
  subst n;have d1:=BH hk;simp only[FC]at d1;clear hk ai aj ak c6 c7;obtain⟨C,D,E,F,M,N,P,yf⟩:=ab.out.zero;have s0:=Ah C;have s1:=Ah D;have s2:=Ah E;have s3:=Ah F;have s4:=Ah M;have s5:=Ah N;have s6:=Ah P;go_wp2;exact Qs (v:=Qd #[(Qm #[U Z 0,U Z 0,U Z 0,U Z 0,U Z 0,J ⟨#[]⟩,S O 0 0]),U Z 0,Qf Qa]) (by simp[Qt,Qu,go_sem,C,D,E,F,M,N,P]) rfl ⟨ah,rfl⟩
 case pos =>
 have d1:=CG hk;have q:Hid ((match Hp T1.data.toList T2.data.toList T3.data.toList T4.data.toList T5.data.toList T7.data.toList with
  | some (r,u,y,z,B,g)=>I (r,u,y,z,B,p.data.toList,g)
  | none=>O)=R):=by
  show _=_;rw[<-ak.out];split
  ·rw[if_pos hk]
  ·rfl
 simp only[FC]at d1;clear hk ak
 go_wp2_with fail
 refine ai.mono ?_;rintro e w3 ⟨a0,ag⟩;clear ai;have ac:BL w w3:=Ad ah ag;have al:Hid (Al w3 w.heap.size AC (S O 0 0)):=ab.out.below ag;have e6:=Aa ag c6;have e7:=Aa ag c7;clear ab c0 c6 c7 d1;rcases a0 with⟨zs,g,az,X,rfl,Y,ba⟩|⟨j,t,f,aa,rfl⟩
 case inr =>
  have n:R=O:=by
   rw[<-q.out,Te]
   match j,f with
   | 0,f=>exact V (by rw[Qn f];exact aa)
   | 1,f=>exact H (V (by rw[Qn f];exact aa))
   | 2,f=>exact H (H (V (by rw[Qn f];exact aa)))
   | 3,f=>exact H (H (H (V (by rw[Qn f];exact aa))))
   | 4,f=>exact H (H (H (H (V (by rw[Qn f];exact aa)))))
   | k+5,f=>simp at f
  subst n;clear q f aa e6 e7 aj;obtain⟨C,D,E,F,M,N,P,yf⟩:=al.out.zero;have s0:=Ah C;have s1:=Ah D;have s2:=Ah E;have s3:=Ah F;have s4:=Ah M;have s5:=Ah N;have s6:=Ah P;go_wp2;exact Qs (v:=Qd #[(Qm #[U Z 0,U Z 0,U Z 0,U Z 0,U Z 0,J ⟨#[]⟩,S O 0 0]),U Z 0,Qf Qa]) (by simp[Qt,Qu,go_sem,C,D,E,F,M,N,P]) rfl ⟨ac,rfl⟩
 case inl =>
 obtain⟨r,u,y,z,B,ae⟩:=iF (l:=zs) az;subst ae;have q1:=X 0 T1 rfl;have q2:=X 1 T2 rfl;have q3:=X 2 T3 rfl;have q4:=X 3 T4 rfl;have q5:=X 4 T5 rfl;have k1:=Y 0 (by simp);have k2:=Y 1 (by simp);have k3:=Y 2 (by simp);have k4:=Y 3 (by simp);have k5:=Y 4 (by simp);simp only[Q8,Q9]at k1 k2 k3 k4 k5;have o:=aj w3 (h.below ac);unfold Dd at o;clear aj X Y az;simp only[Qz,Q0,QA,QB]
 cases hg:As T7.data.toList with
 | none =>
  rw[hg]at o;dsimp only at o;have n:R=O:=by rw[<-q.out,Te (H (H (H (H (H hg)))))]
  subst n;clear q hg q1 q2 q3 q4 q5
  go_wp2_with fail
  refine o.mono ?_;rintro e w4 ⟨rfl,i⟩;clear o;have Q:BL w w4:=Ad ac i;obtain⟨C,D,E,F,M,N,P,yf⟩:=(al.out.below i).zero;have s0:=Ah C;have s1:=Ah D;have s2:=Ah E;have s3:=Ah F;have s4:=Ah M;have s5:=Ah N;have s6:=Ah P;go_wp2;exact Qs (v:=Qd #[(Qm #[U Z 0,U Z 0,U Z 0,U Z 0,U Z 0,J ⟨#[]⟩,S O 0 0]),U Z 0,Qf Qa]) (by simp[Qt,Qu,go_sem,C,D,E,F,M,N,P]) rfl ⟨Q,rfl⟩
 | some sm =>
  rw[hg]at o;dsimp only at o;have n:R=I (r,u,y,z,B,p.data.toList,sm):=by
   rw[<-q.out,iH (by simpa using q1) (by simpa using q2) (by simpa using q3) (by simpa using q4) (by simpa using q5) hg]
  subst n;clear q hg q1 q2 q3 q4 q5
  go_wp2_with fail
  refine o.mono ?_;rintro e w4 ⟨rfl,i⟩;clear o;have Q:BL w w4:=Ad ac i;have ad:=al.out.below i;have t6:=Aa i e6;have l1:=Aa i k1;have l2:=Aa i k2;have l3:=Aa i k3;have l4:=Aa i k4;have l5:=Aa i k5;have am:b≠w.heap.size:=fun e=>by
   have e2:=ad.zero.2.2.2.2.2.2.1;rw[<-e]at e2;have:=t6.symm.trans e2;simp at this
  have c:g≠w.heap.size:=by have:=a1.out;omega
  have a7:¬w.heap.size=b:=fun e=>am e.symm;have a8:¬w.heap.size=g:=fun e=>c e.symm;have d:BL w4 w4.drew:=(Qo _ _).drew;have au:=ad.below d;have ax:=Q.drew;have T:Below (((((((w4.setCell ⟨w.heap.size,0,O⟩ (U Z r)).setCell ⟨w.heap.size,1,O⟩ (U Z u)).setCell ⟨w.heap.size,2,O⟩ (U Z y)).setCell ⟨w.heap.size,3,O⟩ (U Z z)).setCell ⟨w.heap.size,4,O⟩ (U Z B)).setCell ⟨w.heap.size,5,O⟩ (J p)).setCell ⟨w.heap.size,6,O⟩ (S O 0 0)).heap.size (((((((w4.setCell ⟨w.heap.size,0,O⟩ (U Z r)).setCell ⟨w.heap.size,1,O⟩ (U Z u)).setCell ⟨w.heap.size,2,O⟩ (U Z y)).setCell ⟨w.heap.size,3,O⟩ (U Z z)).setCell ⟨w.heap.size,4,O⟩ (U Z B)).setCell ⟨w.heap.size,5,O⟩ (J p)).setCell ⟨w.heap.size,6,O⟩ (S O 0 0)) (((((((w4.setCell ⟨w.heap.size,0,O⟩ (U Z r)).setCell ⟨w.heap.size,1,O⟩ (U Z u)).setCell ⟨w.heap.size,2,O⟩ (U Z y)).setCell ⟨w.heap.size,3,O⟩ (U Z z)).setCell ⟨w.heap.size,4,O⟩ (U Z B)).setCell ⟨w.heap.size,5,O⟩ (J p)).setCell ⟨w.heap.size,6,O⟩ (S O 0 0)).drew:=(Qo _ _).drew;obtain⟨C,D,E,F,M,N,P,yf⟩:=au.zero;obtain⟨v0,v1,v2,v3,v4,v5,v6,vf⟩:=ad.zero;have ae:=ad.set (r,u,y,z,B,p, []) (S O 0 0);have av:=au.set (r,u,y,z,B,p, []) (S O 0 0);unfold FR at ae av;dsimp only at ae av;clear e6 e7 k1 k2 k3 k4 k5 i ag ad au ac al
  go_wp2_with fail
  go_region_held3 (fun w'=>w'.cell? ⟨b,6,O⟩=I (J p)/\w'.cell? ⟨g,0,O⟩=I (U Z r)/\w'.cell? ⟨g,1,O⟩=I (U Z u)/\w'.cell? ⟨g,2,O⟩=I (U Z y)/\w'.cell? ⟨g,3,O⟩=I (U Z z)/\w'.cell? ⟨g,4,O⟩=I (U Z B)/\BL w w')
   (first
    | with_reducible exact⟨Aa d t6,Aa d l1,Aa d l2,Aa d l3,Aa d l4,Aa d l5,ax⟩
    | with_reducible exact⟨DT am (Aa d t6),DT c (Aa d l1),DT c (Aa d l2),DT c (Aa d l3),DT c (Aa d l4),DT c (Aa d l5),MK ax⟩
    | with_reducible exact⟨Aa T (DT am t6),Aa T (DT c l1),Aa T (DT c l2),Aa T (DT c l3),Aa T (DT c l4),Aa T (DT c l5),(MK Q).drew⟩
    | with_reducible exact⟨t6,l1,l2,l3,l4,l5,Q⟩
    | with_reducible exact⟨DT am t6,DT c l1,DT c l2,DT c l3,DT c l4,DT c l5,MK Q⟩)
   (fail)
  go_split_ands;have a4:BL w (((((((w4.setCell ⟨w.heap.size,0,O⟩ (U Z r)).setCell ⟨w.heap.size,1,O⟩ (U Z u)).setCell ⟨w.heap.size,2,O⟩ (U Z y)).setCell ⟨w.heap.size,3,O⟩ (U Z z)).setCell ⟨w.heap.size,4,O⟩ (U Z B)).setCell ⟨w.heap.size,5,O⟩ (J p)).setCell ⟨w.heap.size,6,O⟩ (S O 0 0)):=MK Q;have a5:=a4.drew;obtain⟨u0,u1,u2,u3,u4,u5,u6⟩:=(ae.below T).cells;obtain⟨m0,m1,m2,m3,m4,m5,m6⟩:=av.cells;dsimp only at u0 u1 u2 u3 u4 u5 m0 m1 m2 m3 m4 m5;go_wp2;refine Qs (v:=Qd #[Qm #[U Z r,U Z u,U Z y,U Z z,U Z B,J p,S O 0 0],U Z sm,Qf Qe]) (by simp[Qt,Qu,go_sem,u0,u1,u2,u3,u4,u5,u6]) rfl ⟨a5,?_⟩;dsimp only;rw[Dy];rfl
theorem UY:∀(n:Nat) (s:List UInt8),s.length<=n->((Av 10 s).getLastD []= []↔s= []\/Qp s [10]=Qe)
 | 0,s,h=>by
  obtain rfl:s= []:=QC.1 (by omega);simp[J6 10 [] (by simp)]
 | n+1,s,h=>by
  have d:∀t:List UInt8,Qp t [10]=Qe↔ [10] <:+ t:=fun t=>by unfold Qp;exact List.isSuffixOf_iff_suffix
  rcases Hl 10 s with⟨f,_⟩|⟨a,b,rfl,f,_⟩
  ·rw[J6 10 s f,d];constructor
   ·intro e;exact V e
   ·rintro(e | ⟨t,e⟩)
    ·exact e
    ·exact absurd rfl (f 10 (by rw[<-e];simp))
  ·have o:b.length<=n:=by simp at h;omega
   have p:=UY n b o;rw[Hk 10 a b f];obtain⟨v,r,e⟩:=List.exists_cons_of_ne_nil (J7 10 b);have q:(a :: Av 10 b).getLastD []=(Av 10 b).getLastD []:=by rw[e];simp[List.getLastD_eq_getLast?,List.getLast?_cons_cons]
   rw[q,p,d,d];constructor
   ·rintro(rfl | ⟨t,rfl⟩)
    ·exact H ⟨a,rfl⟩
    ·exact H ⟨a++10 :: t,by simp⟩
   ·rintro(k | ⟨t,k⟩)
    ·simp at k
    ·by_cases g:b= []
     ·exact V g
     ·refine H ?_;have j:(a++10 :: b).getLast? =I 10:=by rw[<-k];simp
      have l:b.getLast? =I 10:=by
       rw[List.getLast?_append,List.getLast?_cons]at j
       cases i:b.getLast? with
       | none=>exact absurd (List.getLast?_eq_none_iff.1 i) g
       | some c=>rw [i]at j;simpa using j
      obtain⟨u,m⟩:=List.getLast?_eq_some_iff.1 l;exact⟨u,m.symm⟩
theorem qJ (s:List UInt8):(JJ (Av 10 s):Int)=if s≠ []/\Qp s [10]=Qa then (s.count 10:Int)+1 else s.count 10:=by
 have d:=Ny 10 s;have c:=UY s.length s (Qb _);unfold JJ;by_cases h:(Av 10 s).getLastD []= []
 ·rw[if_pos h,if_neg,d]
  ·simp
  ·rintro⟨f,g⟩;rcases c.1 h with b | b
   ·exact f b
   ·rw[g]at b;cases b
 ·rw[if_neg h,if_pos,d]
  ·simp
  ·refine⟨fun e=>h (c.2 (V e)),?_⟩
   cases i:Qp s [10] with
   | false=>rfl
   | true=>exact absurd (c.2 (H i)) h
theorem qK (s:ByteArray) (w:A) (n:s.size<=100000) :
  Qr Ql 260 #[J s] w fun e w'=>e=Qj (U Z (JJ (Av 10 s.data.toList)))/\w'=w:=by
 have b:=strings_Count_one s 10 w;have c:=strings_HasSuffix s ⟨#[10]⟩ w (by omega);rw[qJ];unfold Lib.countByte at b;have f:=List.count_le_length (a:=(10:UInt8)) (l:=s.data.toList);rw[AA]at f;have j:(⟨#[10]⟩:ByteArray).data.toList= [10]:=rfl;rw[j]at c;generalize List.count 10 s.data.toList=N at b f ⊢;by_cases d:s.data.toList= []
 ·have k:=CG d;rw[if_neg (by simp[d])]
  go_enter Q2,Q3
  go_wp2_with fail
  refine b.mono ?_;rintro e g ⟨rfl,rfl⟩;go_wp2;go_ret;exact⟨rfl,rfl⟩
 ·have k:=BH d
  cases i:Qp s.data.toList [10] with
  | true =>
   rw[if_neg (by simp)];rw[i]at c
   go_enter Q2,Q3
   go_wp2_with fail
   refine b.mono ?_;rintro e g ⟨rfl,rfl⟩
   go_wp2_with fail
   refine c.mono ?_;rintro e m ⟨rfl,rfl⟩;go_wp2;go_ret;exact⟨rfl,rfl⟩
  | false =>
   rw[if_pos ⟨d,rfl⟩];rw[i]at c
   go_enter Q2,Q3
   go_wp2_with fail
   refine b.mono ?_;rintro e g ⟨rfl,rfl⟩
   go_wp2_with fail
   refine c.mono ?_;rintro e m ⟨rfl,rfl⟩;go_wp2;go_ret;exact⟨by go_num,rfl⟩
structure EF (W:A) (B bl:Nat) (v:Qg) (acc:List Fl):Prop where
 box:W.heap[bl]? =I (G #[v] 38 (0,0))
 own:W.ownsRow B 77 6 v acc.length (Aw acc)
 off:v.ownBlock≠I bl
 low:B<=bl
 good:∀g∈acc,At g=0
theorem EF.below {W d:A} {B c:Nat} {v:Qg} {b:List Fl} (h:EF W B c v b) (f:BL W d):EF d B c v b :=
 ⟨(f.block c (Q4 h.box)).trans h.box,E7 h.own f,h.off,h.low,h.good⟩
theorem qL {W i:A} {B b:Nat} {v v':Qg} {c:List Fl} {x:Fl} (h:EF W B b v c) (o:At x=0) (p:i.ownsRow B 77 6 v' (c.length+1) (Aw c++Bl x)) (d:W.grownBy i v.ownBlock) (l:v'.ownBlock=v.ownBlock\/v'.ownBlock=I W.heap.size) :
  EF (i.setCell ⟨b,0,O⟩ v') B b v' (c++ [x])/\i.heap[b]? =I (G #[v] 38 (0,0)):=by
 have k:=Q4 h.box;have j:i.heap[b]? =I (G #[v] 38 (0,0)):=(d.block b k (fun e=>h.off e.symm)).trans h.box;have f:v'.ownBlock≠I b:=by
  rcases l with e | e
  ·rw[e];exact h.off
  ·rw[e];intro n;have:=Qn n;omega
 refine⟨⟨one_setCell j,?_,f,h.low,fun g d=>?_⟩,j⟩
 ·rw[Qw,Hv];have m:Aw [x]=Bl x:=by simp[Aw]
  rw[m];exact ownsRow_setCell_other p f _
 ·rw[List.mem_append,List.mem_singleton]at d;rcases d with d | rfl
  ·exact h.good g d
  ·exact o
theorem qM (b:List Fl) (l:List UInt8):Cx Bz b l=if (BV l).2≠0 then (BV l).2 else Gy b (BV l).1:=by
 show (if (BV l).2≠0 then (BV l).2 else if b≠ []/\decide (fk (BV l).1<=fk (b.getLastD B7))=Qe then 9 else 0)=_;unfold Gy;simp only[decide_eq_true_eq]
def OY (a:Nat->Qk) (B bl:Nat) (acc:List Fl) (l:List UInt8) (W:A) (e:Qy) (w':A):Prop:=Below B W w' /\
 ((Cx Bz acc l≠0/\e=Qj (Ae a (Cx Bz acc l)))\/(Cx Bz acc l=0/\e= .returned QD/\∃v',EF w' B bl v' (acc++ [(BV l).1])))
theorem qN (d:ByteArray) (R B:Nat) (v:Qg) (b:List Fl) (W:A) (a:Nat->Qk) (h:Gv W a) (t:EF W B R v b) (hs:d.size<=100000) (hl:b.length<=100000) :
  Qr Ql 261 #[J d,Qi (I ⟨R,0,O⟩)] W (OY a B R b d.data.toList W):=by
 obtain⟨i0,ax,ay,az,ak⟩:=Tryz.fileInfo;unfold OY;rw[qM];have i:=hO d W a ⟨h.list.file,h.text⟩ hs;have l:=Ta d.data.toList;have ao:Hid _:=fun W' (hb:BL W W')=>(h.below hb).list;have m:=Qq t.low (Nat.le_of_lt (Q4 t.box));generalize BV d.data.toList=RF at i l ⊢;obtain⟨f,E⟩:=RF;dsimp only at i l ⊢;by_cases hE:E=0
 ·subst hE;replace l:=l rfl;have F:=fun W' (hb:BL W W')=>Uc v b f W' a (ao.out W' hb) (Gt (t.below hb).own).1 hl (fun g hg=>⟨by have:=Tb (t.good g hg);omega,Ho (t.good g hg)⟩) (by have:=Tb l;omega) (Ho l);simp only[Ae]at i;obtain⟨q,cp,rfl⟩:=SV t.own;have ap:Hid _:=l;have T:Hid (∀W',BL W W'->EF W' B R (S q b.length cp) b):=fun W' hb=>t.below hb;have aq:Hid (∀k,QE (S q b.length cp)=I k->B<=k/\k<W.heap.size):=fun k hk=>t.own.lt k hk;obtain⟨X,hX⟩:∃X,Gy b f=X:=⟨_,rfl⟩;have ar:X=0\/X=9:=by
   rw[<-hX];unfold Gy;split
   ·exact H rfl
   ·exact V rfl
  rw[hX]at F;simp only[hX];have ae:=fun p=>Ja p f;have K:=fun p=>Ir p f;unfold GR at ae K;unfold A1 at i F;obtain⟨N,hN⟩:∃N,b.length=N:=⟨_,rfl⟩;have HN:Hid (b.length=N):=hN;rw[hN]at F T aq hl;clear hN;obtain⟨y,z,C,n,o,c⟩:=f
  go_enter Q5,ntmps261
  go_wp2_with fail
  refine i.mono ?_;rintro e p ⟨rfl,ad⟩;have Y:=ae p;have L:=K p
  go_upto_region 3 with fail
  generalize p.alloc (G #[J y,J z,U Z C,U Z n,U Z o,U Z c] 77)=W2 at Y L ⊢;have r:BL W W2:=Ad ad L;have aj:=T.out W2 r;have k0:=Qx aj.box;obtain⟨z0,z1,z2,z3,z4,z5,-⟩:=Y.cells;have au:=F W2 r
  go_wp2_with fail
  refine au.mono ?_;rintro e D ⟨rfl,ai⟩;have M:BL W D:=Ad r ai;have av:=Y.below ai;have aa:=T.out D M;obtain⟨z0,z1,z2,z3,z4,z5,-⟩:=av.cells;dsimp only at z0 z1 z2 z3 z4 z5;rcases ar with rfl | rfl
  ·have af:BL D (D.alloc (G #[J y,J z,U Z C,U Z n,U Z o,U Z c] 77)):=Af _ _;have ab:BL W (D.alloc (G #[J y,J z,U Z C,U Z n,U Z o,U Z c] 77)):=Ad M af;have k0:=Qx aa.box;have P:Hid (EF (D.alloc (G #[J y,J z,U Z C,U Z n,U Z o,U Z c] 77)) B R (S q N cp) b):=aa.below af;simp only[Ae]
   go_wp2_with (at_builtin;refine wpList_append_own_at _ rfl _ _ 38 rfl B 77 i0 (Qm #[J ⟨#[]⟩,J ⟨#[]⟩,U Z 0,U Z 0,U Z 0,U Z 0]) 6 64 underlying38 ax ay az ak rfl (by decide) (S q N cp) b.length (Aw b) rfl P.out.own ⟨D.heap.size,0,O⟩ 1 1 (Bl (y,z,C,n,o,c)) rfl ?qd1 ?qd2 ?qd3 ?qd4 ?qd5 ?qd6 ?_)
   case qd1=>rfl
   case qd2=>first | exact JH _ _ | exact fun j u hu=>hu
   case qd3=>exact Hu _
   case qd4=>have:=HN.out;unfold Q1;omega
   case qd5=>have:=HN.out;omega
   case qd6=>exact Qq m ab.size
   intro v7 w7 Q s _ an;obtain⟨g7,al,rfl⟩:=IW Q;obtain⟨am,ah⟩:=qL (x:=(y,z,C,n,o,c)) P.out ap.out Q s (by simpa using an);have a0:=Qx ah;have a1:=free_of_one ah;have aw:Below B W w7:=(ab.mono m).grown s (Qq m ab.size) (fun k hk=>K3 P.out.own hk);have ag:Below B W (w7.setCell ⟨R,0,O⟩ (S (I ⟨g7,0,O⟩) (b.length+1) al)):=aw.setCell P.out.low _;have ac:Hid _:=am;go_wp2;go_ret
   first | exact⟨ag,H ⟨rfl,rfl,_,ac.out⟩⟩ | exact⟨ag,rfl,_,ac.out⟩
  ·simp only[Ae];go_wp2;go_ret
   first | exact⟨M.mono m,V ⟨by decide,rfl⟩⟩ | exact⟨M.mono m,rfl⟩
 ·obtain⟨j,rfl⟩:∃j,E=j+1:=⟨E-1,by omega⟩;simp only[Ae]at i ⊢;have K:=fun p=>Ir p f;unfold A1 at i;obtain⟨y,z,C,n,o,c⟩:=f
  go_enter Q5,ntmps261
  go_wp2_with fail
  refine i.mono ?_;rintro e p ⟨rfl,ad⟩;have L:=K p
  go_upto_region 2 with fail
  have r:=Ad ad L;go_wp2;go_ret
  first | exact⟨r.mono m,V ⟨by simp,rfl⟩⟩ | exact⟨r.mono m,rfl⟩
def OZ (a:Nat->Qk) (B bl:Nat) (W:A) (R:List Fl×Nat×Nat) (e:Qy) (w':A):Prop:=Below B W w'/\((R.2.1=0/\e= .returned QD/\∃v',EF w' B bl v' R.1) \/
 (R.2.1≠0/\∃fb,e=Qj (Qv 140 (Qi (I ⟨fb,0,O⟩)))/\w'.cell? ⟨fb,0,O⟩=I (U Z R.2.2)/\w'.cell? ⟨fb,1,O⟩=I (Ae a R.2.1)))
theorem qO (y B:Nat) (v:Qg) (j:ByteArray) (W:A) (a:Nat->Qk) (m:∀W',Below B W W'->Gv W' a) (ai:EF W B y v []) (aa:B<=W.heap.size) (hs:j.size<=20000) :
  Qr Ql 208 #[J j,.func (.func 261) #[] #[Qi (I ⟨y,0,O⟩)]] W (OZ a B y W (AP Bz (Av 10 j.data.toList) 0 [])):=by
 have eg:∀args w,(callFunc 261 args).run Ql w= .ok (.enter 261 args) w:=enters_of Q5 (by kernel_rfl) rfl;unfold OZ;obtain⟨R,hR⟩:∃R,AP Bz (Av 10 j.data.toList) 0 []=R:=⟨_,rfl⟩;rw[hR];have HR:Hid (AP Bz (Av 10 j.data.toList) 0 []=R):=hR;clear hR
 go_enter func208,ntmps208
 go_wp2
 go_loopw [0,5] (fun sv n wr=> ∃(rest:ByteArray) (b:List Fl),sv=J rest/\n=U Z b.length/\rest.size+b.length<=20000/\Below B W wr/\(∃v',EF wr B y v' b)/\AP Bz (Av 10 rest.data.toList) b.length b=R) (fun sv _ _=>LZ sv)
 case atStart=>exact ⟨j, [],rfl,rfl,by simpa using hs,Qo _ _,⟨v,ai⟩,HR.out⟩
 case round =>
  clear ai;obtain⟨rest,b,rfl,rfl,ap,X,⟨v1,p⟩,al⟩:=hrel;have t:Hid (AP Bz (Av 10 rest.data.toList) b.length b=R):=al;have K:=m wr X;have ab:=Qq aa X.size;obtain⟨n,hn⟩:∃n,b.length=n:=⟨_,rfl⟩;have D:Hid _:=hn;rw[hn]at ap;simp only[hn];clear hn;by_cases he:rest.size=0
  ·have L:rest.data.toList= []:=QC.1 (by rw[AA];exact he);have am:(rest.toList == [])=Qe:=CG L;have c:Hid (R=(b,0,0)):=by
    show _=_;rw[<-t.out,L];rfl
   have an:Hid (EF wr B y v1 b):=p;clear L p;go_wp2;go_ret;refine⟨X,V ⟨by rw[c.out],rfl,v1,?_⟩⟩;rw[c.out];exact an.out
  ·have z:rest.data.toList≠ []:=fun e=>he (by rw[<-AA,e];rfl);have am:(rest.toList == [])=Qa:=BH z;obtain⟨mx,Y⟩:=K.list.file.env.base.maxl;have hcut:=strings_Cut rest ⟨#[10]⟩ mx wr (by omega) Y;dsimp only at hcut;rcases Hl 10 rest.data.toList with⟨s,hc⟩|⟨f,g,hl,s,hc⟩
   ·rw[hc]at hcut;dsimp only at hcut;have c:Hid (R=([],1,n)):=by
     show _=_;rw[<-t.out,J6 10 _ s,Kr,if_neg z,D.out]
    clear hc s z p;generalize (⟨rest.data.toList.toArray⟩:ByteArray)=fB at hcut
    go_wp2_with fail
    refine hcut.mono ?_;rintro e w1 ⟨rfl,q,rfl⟩;clear hcut;have l:BL wr (wr.drewN q):=AH (Qo _ _) q;have i:Below B W (wr.drewN q):=X.trans (l.mono ab);have ht:=(m _ i).text;clear K Y l;generalize wr.drewN q=F at i ht ⊢;have M:BL F (F.alloc (G #[U Z n,Qv 410 (Qi (I (a 0)))] 143)):=Af _ _;have o:Below B W (F.alloc (G #[U Z n,Qv 410 (Qi (I (a 0)))] 143)):=i.trans (M.mono (Qq aa i.size));go_wp2;go_ret;exact⟨o,H ⟨by rw[c.out];exact Nat.one_ne_zero,F.heap.size,rfl,by rw[c.out];simp,by rw[c.out];simp[Ae]⟩⟩
   ·rw[hc]at hcut;dsimp only at hcut;have aj:f.length+g.length+1=rest.size:=by rw[<-AA,hl];simp;omega
    have k:R=if Cx Bz b f≠0 then ([],Cx Bz b f,n) else AP Bz (Av 10 g) (n+1) (b++ [(BV f).1]):=by
     rw[<-t.out,hl,Hk 10 f g s,S5 Bz f _ (J7 10 g),D.out];rfl
    have eA:(⟨f.toArray⟩:ByteArray)=Ab f:=rfl;have eB:(⟨g.toArray⟩:ByteArray)=Ab g:=rfl;rw[eA,eB]at hcut;have ac:(Ab f).data.toList=f:=by simp[Ab]
    have ad:(Ab g).data.toList=g:=by simp[Ab]
    have N:(Ab f).size<=100000:=by rw[CR];omega
    have u:(Ab g).size+n+1<=20000/\(Ab g).size<rest.size:=by rw[CR];omega
    have P:b.length<=100000:=by rw[D.out];omega
    clear hc s z hl eA eB aj
    go_wp2_with fail
    refine hcut.mono ?_;rintro e w1 ⟨rfl,q,rfl⟩;clear hcut;have l:BL wr (wr.drewN q):=AH (Qo _ _) q;have i:Below B W (wr.drewN q):=X.trans (l.mono ab);have ae:=m _ i;have Q:=p.below l;clear p K Y l;generalize wr.drewN q=F at i ae Q ⊢;have d:=qN (Ab f) y B v1 b F a ae Q N P;rw[ac]at d;unfold OY at d;have T:Hid ((Ab g).data.toList=g):=ad;clear Q ac ad P;obtain⟨E,ag⟩:∃E,Cx Bz b f=E:=⟨_,rfl⟩;rw[ag]at d k;clear ag;by_cases af:E=0
    ·subst af;rw[if_neg (by simp)]at k;have c:Hid (AP Bz (Av 10 g) (n+1) (b++ [(BV f).1])=R):=k.symm;clear k;simp only[ne_eq,not_true_eq_false,false_and,false_or,true_and]at d;generalize (BV f).1=x at d c;generalize Ab f=lA at d N ⊢;generalize Ab g=lB at u T ⊢
     go_wp2_with (go_at_fn 261;refine d.mono ?_;rintro e r ⟨o,rfl,v2,ah⟩)
     have C:Below B W r:=i.trans o;have ak:Hid (EF r B y v2 (b++ [x])):=ah;clear ah d;go_roundw
     case rel=>exact ⟨lB,b++ [x],rfl,by rw[Qw,D.out];go_num,by rw[Qw,D.out];simp;omega,C,⟨v2,ak.out⟩,by rw[T.out,Qw,D.out];exact c.out⟩
     case measure=>simp only[LZ];exact u.2
    ·rw[if_pos af]at k;obtain⟨E',aq⟩:∃E',E=E'+1:=⟨E-1,by omega⟩;subst aq;have c:Hid (R=([],E'+1,n)):=k;clear k;simp only[Ae,ne_eq,QF,not_false_eq_true,false_and,or_false,true_and]at d;generalize Ab f=lA at d N ⊢;generalize Ab g=lB at u T ⊢
     go_wp2_with (go_at_fn 261;refine d.mono ?_;rintro e r ⟨o,rfl⟩)
     have C:Below B W r:=i.trans o;have M:BL r (r.alloc (G #[U Z n,Qv 410 (Qi (I (a E')))] 143)):=Af _ _;have ao:Below B W (r.alloc (G #[U Z n,Qv 410 (Qi (I (a E')))] 143)):=C.trans (M.mono (Qq aa C.size));clear d;go_wp2;go_ret;exact⟨ao,H ⟨by rw[c.out];exact QF _,r.heap.size,rfl,by rw[c.out];simp,by rw[c.out];simp[Ae]⟩⟩
theorem qP (s:ByteArray) (w:A) (a:Nat->Qk) (h:Gv w a) (z:s.size<=20000) :
  Qr Ql 172 #[J s] w fun e w'=> ∃v' ev,e=Qj (Qd #[v',ev])/\Ai w' v' (Co s.data.toList).1/\AU w' a ev (Co s.data.toList).2/\BL w w'/\FS w v':=by
 have f:=qK s w (by omega);rw[SW];by_cases m:60<JJ (Av 10 s.data.toList)
 ·rw[if_pos m];dsimp only;have B:(60:Int)<(JJ (Av 10 s.data.toList):Int):=by omega
  have C:=h.list.full
  go_enter Q6,Q7
  go_wp2_with fail
  refine f.mono ?_;rintro e l ⟨rfl,rfl⟩;go_wp2
  go_quiet (fail)
  go_wp2;go_ret2;exact⟨_,_,rfl,V ⟨O,0,rfl,fun _=>rfl,rfl⟩,rfl,AH (Qo _ _) nq,NY _⟩
 ·rw[if_neg m];have d:BL w (w.alloc (G #[S O 0 0] 38)):=Af _ _;have b:EF (w.alloc (G #[S O 0 0] 38)) w.heap.size w.heap.size (S O 0 0) []:=⟨heap_alloc_new _ _,World.ownsRow_nil _ _ _ _,by simp[QE],Qb _,by simp⟩;have c:=qO w.heap.size w.heap.size (S O 0 0) s (w.alloc (G #[S O 0 0] 38)) a (fun W' hb=>h.below (d.trans hb)) b d.size z;unfold OZ at c;generalize AP Bz (Av 10 s.data.toList) 0 []=R at c ⊢;obtain⟨u,E,n⟩:=R;by_cases j:E=0
  ·subst j;simp only[ne_eq,not_true_eq_false,false_and,or_false,true_and,if_false]at c ⊢
   go_enter Q6,Q7
   go_wp2_with fail
   refine f.mono ?_;rintro e l ⟨rfl,rfl⟩
   go_wp2_with fail
   refine c.mono ?_;rintro e r ⟨i,rfl,t,b⟩;have g:=d.trans i;have o:=Qx b.box;have p:Hid (Ai r t u):=(Gt b.own).1;have q:Hid (FS l t):=fun k hk=>Jb b.own hk;obtain⟨D,F,rfl⟩:=SV b.own;go_wp2;go_ret2;exact⟨_,_,rfl,p.out,rfl,g,q.out⟩
  ·simp only[ne_eq,j,not_false_eq_true,true_and,false_and,false_or,if_true]at c ⊢
   go_enter Q6,Q7
   go_wp2_with fail
   refine f.mono ?_;rintro e l ⟨rfl,rfl⟩
   go_wp2_with fail
   refine c.mono ?_;rintro e r ⟨i,v,rfl,o,y⟩;have g:=d.trans i;go_wp2;go_ret2;exact⟨_,_,rfl,V ⟨O,0,rfl,fun _=>rfl,rfl⟩,⟨j,v,rfl,o,y⟩,g,NY _⟩
end Go.Proofs.YtcllhobffhkafaaGreatDoor
