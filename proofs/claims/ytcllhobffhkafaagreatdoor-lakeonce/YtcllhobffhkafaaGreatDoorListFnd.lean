/- By an AI agent. -/
import Derived.Test.YtcllhobffhkafaaGreatDoorListOrd
set_option maxRecDepth 100000
set_option maxHeartbeats 16000000
open Go.Proofs.Tryz
open Bool renaming false->V,true->Qf
open Go renaming World->Qa,Calls->Qc,Value->Qg,Addr->Qh,heap_alloc_new->Q5
open Go.Ending renaming returned->Qd
open Go.IntKind renaming i64->U,wrap_u64->Q9
open Go.Lib renaming itoa->H,IsBuilder->Qv,byteCells->Qw,byteCells_append->Q7,join->Q8
open Go.Obj renaming cells->A
open Go.Proofs.Tryz renaming prog->Qb,func153->Qi,ntmps153->Qj,func154->Qm,ntmps154->Qn,func238->Qx,ntmps238->Qy,func158->Q0
open Go.RowKit renaming Hid->Z
open Go.RowKit.Below renaming refl->Qk,size->Ql,trans->Qr,drew->Qs
open Go.Value renaming int->O,string->S,slice->G,pointer->Qe,iface->Qt,bool->Qu,nilIface->Q3
open List renaming length_take->Qo,getElem_mem->Qp,getElem_take->Q1,length_append->Q6
open Nat renaming le_of_lt->Qq,lt_of_lt_of_le->Qz,not_lt_zero->Q2,le_refl->Q4
open Option renaming none->I,some->J
namespace Go.Proofs.YtcllhobffhkafaaGreatDoor
open Go.RowKit Go.Extern.Stop Go.Stop Go.Extern Go.Sort Go.Shelf Go.Lib
theorem jW {b:List Fl} {n:Nat} (i:n<b.length) (g:At b[n]=0):Gy (b.take n) b[n]=if fk b[n]<=ahead b n then 9 else 0:=by
 unfold Gy
 cases n with
 | zero =>
  have:=cP g;rw[if_neg (by simp),if_neg];show ¬fk b[0]<=0;omega
 | succ m =>
  have f:m<b.length:=by omega
  have c:(b.take (m+1)).length=m+1:=by rw[Qo];omega
  rw[Ub (b.take (m+1)) m B7 c (by omega),ST f,Q1];have d:b.take (m+1)≠ []:=fun e=>by rw[e]at c;simp at c
  simp[d]
theorem KI (v:Qg) (d:List Fl) (w:Qa) (a:Nat->Qh) (h:D4 w a) (hx:Ai w v d) (hl:d.length<=200) (an:Eb d) :
  Qc Qb 138 #[v] w fun e w'=> ∃ev,e=Qd ev/\AU w' a ev (BF d)/\BL w w':=by
 obtain⟨q,u,rfl⟩:=hx.form;have ai:Z (Ai w (G q d.length u) d):=hx;have aj:Z (Eb d):=an;have ak:Z (∀W,BL w W->D4 W a):=fun W F=>h.below F;obtain⟨L,hL⟩:∃L,d.length=L:=⟨_,rfl⟩;have HX:Z (d.length=L):=hL;rw[hL]at hl ⊢;generalize hR:BF d=R;have HR:Z (BF d=R):=hR;clear hL hx an hR;by_cases ab:60<L
 ·have ap:R=(8,I):=by rw[<-HR.out];unfold BF;rw[if_pos (by rw[HX.out];exact ab)]
  subst ap;have hi:(60:Int)<(L:Int):=by omega
  have hf:=h.full
  go_enter func138,ntmps138
  go_wp2;go_ret;exact⟨_,rfl,rfl,Qk _ _⟩
 ·have ac:Z (R=EN 0 d 0):=by
   show _=_;rw[<-HR.out];unfold BF;rw[if_neg (by rw[HX.out];exact ab)]
  have hi:¬(60:Int)<(L:Int):=by omega
  clear HR
  go_enter func138,ntmps138
  go_wp2
  go_loopw [12] (fun k wr=> ∃n:Nat,n<=L/\k=O U n/\Hw d n/\(∀j (h:j<d.length),j<n->At d[j]=0)/\BL w wr) (fun k _=>L-(intOf k).toNat)
  case atStart=>exact ⟨0,by omega,rfl,gJ d,fun j h N=>absurd N (Q2 _),Qk _ _⟩
  case round =>
   obtain⟨n,hn,rfl,am,ah,F⟩:=hrel;have P:Z (Hw d n):=am;have al:Z (∀j (h:j<d.length),j<n->At d[j]=0):=ah;clear am ah;by_cases aq:n<L
   ·have i:n<d.length:=by rw[HX.out];exact aq
    have ao:n<=u/\L<=u:=by
     have:=ai.out.room.2 (fun e=>by rw[e]at i;simp at i);rw[HX.out]at this;omega
    obtain⟨b,o,hq,hc⟩:=(ai.out.below F).cells (fun e=>by rw[e]at i;simp at i);subst hq;have HC:Z (Fi wr b o d):=hc;obtain⟨c0,c1,c2,c3,c4,c5⟩:=hc n i;obtain⟨k1,k2⟩:=aj.out d[n] (Qp _);have y:=fun W (hW:D4 W a)=>Me d[n] W a hW.file (by omega) (by omega);have B:=fun e=>gK P.out i e;have m:=fun e o=>gL P.out i e o;have p:=fun e o=>gM P.out i e o;have r:At d[n]=0->∀W,BL wr W->Qc Qb 223 #[G (J ⟨b,o,I⟩) n u,A1 d[n]] W fun e w'=>e=Qd (Ae a (if fk d[n]<=ahead d n then 9 else 0))/\BL W w':=fun he W hW=>by
     have N:=Uc (G (J ⟨b,o,I⟩) n u) (d.take n) d[n] W a (ak.out W (Ad F hW)) (iJ (HC.out.below hW) (Qq i) (by rw[HX.out];exact ao.2)) (by rw[Qo];omega) (fun g hg=>by
      obtain⟨j,hj,rfl⟩:=List.mem_iff_getElem.1 hg;rw[Qo]at hj;rw[Q1];exact⟨by have:=(aj.out d[j] (Qp _)).1;omega,Ho (al.out j (by omega) (by omega))⟩) (by omega) (Ho he)
     rw[jW i he]at N;exact N
    have Q:Z (At d[n]=0->∀j (h:j<d.length),j<n+1->At d[j]=0):=fun he j hj hjn=>by
     by_cases e:j=n
     ·subst e;exact he
     ·exact al.out j hj (by omega)
    unfold A1 at y r;generalize At d[n]=E at y B m p r Q;generalize fk d[n]=c at m p r;generalize ahead d n=Y at m p r;generalize d[n]=f at c0 c1 c2 c3 c4 c5 y r k1 k2;have s:=Ja wr f;have t:=Ir wr f;unfold GR at s t;obtain⟨fp,fq,fn,X,aa,C⟩:=f;dsimp only at c0 c1 c2 c3 c4 c5 y r k1 k2 s t;have ay:(n:Int)<(L:Int):=by omega
    have ax:(0:Int)<=(n:Int):=by omega
    have az:(n:Int)<=(u:Int):=by omega
    clear hc i HC
    go_upto_region 6 with fail
    clear c0 c1 c2 c3 c4 c5;generalize wr.alloc (A #[S fp,S fq,O U fn,O U X,O U aa,O U C] 77)=W5 at s t ⊢;have T:BL w W5:=Ad F t;obtain⟨z0,z1,z2,z3,z4,z5,-⟩:=s.cells;dsimp only at z0 z1 z2 z3 z4 z5;have ad:=y W5 (ak.out W5 T);clear y
    go_wp2_with fail
    refine ad.mono ?_;rintro e w6 ⟨rfl,K⟩;clear ad z0 z1 z2 z3 z4 z5;have ar:BL w w6:=Ad T K;have au:BL wr w6:=Ad t K;by_cases hE:E=0
    ·subst hE;replace m:=m rfl;replace p:=p rfl;have z:=r rfl;have av:Z _:=Q.out rfl;obtain⟨z0,z1,z2,z3,z4,z5,-⟩:=(s.below K).cells;dsimp only at z0 z1 z2 z3 z4 z5;clear B r Q s t K T;by_cases ho:c<=Y
     ·rw[if_pos ho]at z;have D:Z (R=(9,J n)):=by rw[ac.out];exact m ho
      have ae:Z (∀W,BL wr W->Qc Qb 223 #[G (J ⟨b,o,I⟩) n u,.agg #[S fp,S fq,O U fn,O U X,O U aa,O U C]] W fun e w'=>e=Qd (Ae a 9)/\BL W w'):=z;clear z m p;simp only[Ae]
      go_upto_region 8 with fail
      go_region_held3 (fun w'=>w'.cell? ⟨wr.heap.size,0,I⟩=J (S fp)/\w'.cell? ⟨wr.heap.size,1,I⟩=J (S fq)/\w'.cell? ⟨wr.heap.size,2,I⟩=J (O U fn)/\w'.cell? ⟨wr.heap.size,3,I⟩=J (O U X)/\w'.cell? ⟨wr.heap.size,4,I⟩=J (O U aa)/\w'.cell? ⟨wr.heap.size,5,I⟩=J (O U C)/\BL wr w')
       (first
        | (go_split_ands;with_reducible exact⟨Aa l (by assumption),Aa l (by assumption),Aa l (by assumption),Aa l (by assumption),Aa l (by assumption),Aa l (by assumption),Qr (by assumption) (l.mono (Ql (by assumption)))⟩)
        | (go_split_ands;exact⟨by go_keep,by go_keep,by go_keep,by go_keep,by go_keep,by go_keep,by assumption⟩)
        | (go_split_ands;exact⟨by go_keep,by go_keep,by go_keep,by go_keep,by go_keep,by go_keep,Qs (by assumption)⟩))
       (first
        | (go_at_call 223;with_reducible refine(ae.out _ (by go_split_ands;assumption)).mono ?_;rintro e M ⟨rfl,l⟩))
      go_split_ands;have hX:BL wr M:=by assumption
      have af:BL w M:=Ad F hX
      try simp only[Ae]
      have ag:BL M (M.alloc (A #[O U n,Qt 410 (Qe (J (a 8)))] 143)):=Af _ _;go_wp2;go_ret;refine⟨_,rfl,?_,(Ad af ag)⟩;rw[D.out];exact⟨by simp,M.heap.size,rfl,by simp,by simp[Ae]⟩
     ·rw[if_neg ho]at z;have aw:Z _:=p (by omega);have ae:Z _:=z;clear z m p;simp only[Ae]
      go_upto_region 8 with fail
      go_region_held3 (fun w'=>w'.cell? ⟨wr.heap.size,0,I⟩=J (S fp)/\w'.cell? ⟨wr.heap.size,1,I⟩=J (S fq)/\w'.cell? ⟨wr.heap.size,2,I⟩=J (O U fn)/\w'.cell? ⟨wr.heap.size,3,I⟩=J (O U X)/\w'.cell? ⟨wr.heap.size,4,I⟩=J (O U aa)/\w'.cell? ⟨wr.heap.size,5,I⟩=J (O U C)/\BL wr w')
       (first
        | (go_split_ands;with_reducible exact⟨Aa l (by assumption),Aa l (by assumption),Aa l (by assumption),Aa l (by assumption),Aa l (by assumption),Aa l (by assumption),Qr (by assumption) (l.mono (Ql (by assumption)))⟩)
        | (go_split_ands;exact⟨by go_keep,by go_keep,by go_keep,by go_keep,by go_keep,by go_keep,by assumption⟩)
        | (go_split_ands;exact⟨by go_keep,by go_keep,by go_keep,by go_keep,by go_keep,by go_keep,Qs (by assumption)⟩))
       (first
        | (go_at_call 223;with_reducible refine(ae.out _ (by go_split_ands;assumption)).mono ?_;rintro e M ⟨rfl,l⟩))
      go_split_ands;have hX:BL wr M:=by assumption
      have af:BL w M:=Ad F hX
      try simp only[Ae]
      go_wp2;go_roundw
      case rel=>exact ⟨n+1,by omega,by go_num,aw.out,av.out,af⟩
      case measure=>simp [intOf];omega
    ·obtain⟨j,rfl⟩:∃j,E=j+1:=⟨E-1,by omega⟩;have D:Z (R=(j+1,J n)):=by rw[ac.out];exact B hE
     simp only[Ae];clear B m p r Q s t K T au;have ag:BL w6 (w6.alloc (A #[O U n,Qt 410 (Qe (J (a j)))] 143)):=Af _ _;go_wp2;go_ret;refine⟨_,rfl,?_,(Ad ar ag)⟩;rw[D.out];exact⟨by simp,w6.heap.size,rfl,by simp,by simp[Ae]⟩
   ·obtain rfl:n=L:=by omega
    have D:Z (R=(0,I)):=by
     show _=_;rw[ac.out];have N:=P.out;rw[<-HX.out]at N;exact gN N
    go_wp2;go_ret;refine⟨_,rfl,?_,F⟩;rw[D.out];rfl
def ER (n m:Int):Bool:=decide (0<=n) && decide (n<=m)
theorem Ot (n m:Int) (w:Qa):Qc Qb 238 #[O U n,O U m] w fun e w'=>e=Qd (Qu (ER n m))/\w'=w:=by
 by_cases c:0<=n
 ·by_cases d:n<=m
  ·have b:ER n m=Qf:=by simp[ER,c,d]
   rw[b]
   go_enter Qx,Qy
   go_wp2;go_ret;exact⟨rfl,rfl⟩
  ·have b:ER n m=V:=by simp[ER,d]
   rw[b]
   go_enter Qx,Qy
   go_wp2;go_ret;exact⟨rfl,rfl⟩
 ·have b:ER n m=V:=by simp[ER,c]
  rw[b]
  go_enter Qx,Qy
  go_wp2;go_ret;exact⟨rfl,rfl⟩
theorem jX (s:Sn):Em s=(decide (1<=s.1) && (decide (s.1<=1073741824) && (decide (0<=s.2.1) && (decide (s.2.1<s.1) && (ER s.2.2.1 1073741824 && (ER s.2.2.2.1 100000 && ER s.2.2.2.2.1 1073741824)))))):=by
 unfold Em ER;simp only[Bool.and_assoc]
theorem jY (s:Sn) (vf:Qg) (w:Qa) :
  Qc Qb 153 #[A9 s vf] w fun e w'=>e=Qd (Qu (Em s))/\BL w w':=by
 have b:=jX s;generalize Em s=j at b ⊢;obtain⟨o,k,l,m,n,z,B⟩:=s;unfold A9;have c:BL w (w.alloc (A #[O U o,O U k,O U l,O U m,O U n,S z,vf] 40)):=Af _ _;have d:=fun W=>Ot l 1073741824 W;have f:=fun W=>Ot m 100000 W;have g:=fun W=>Ot n 1073741824 W;by_cases t:1<=o
 case neg =>
  obtain rfl:j=V:=by rw[b];simp[t]
  clear b d f g
  go_enter Qi,Qj
  go_wp2;go_ret;exact⟨rfl,c⟩
 by_cases u:o<=1073741824
 case neg =>
  obtain rfl:j=V:=by rw[b];simp[u]
  clear b d f g
  go_enter Qi,Qj
  go_wp2;go_ret;exact⟨rfl,c⟩
 by_cases v:0<=k
 case neg =>
  obtain rfl:j=V:=by rw[b];simp[v]
  clear b d f g
  go_enter Qi,Qj
  go_wp2;go_ret;exact⟨rfl,c⟩
 by_cases y:k<o
 case neg =>
  obtain rfl:j=V:=by rw[b];simp[y]
  clear b d f g
  go_enter Qi,Qj
  go_wp2;go_ret;exact⟨rfl,c⟩
 cases p:ER l 1073741824
 case false =>
  obtain rfl:j=V:=by rw[b];simp[p]
  rw[p]at d;clear b
  go_enter Qi,Qj
  go_wp2_with (go_at_call 238;first | (with_reducible refine(d _).mono ?_;rintro e i ⟨rfl,rfl⟩))
  go_ret;exact⟨rfl,c⟩
 rw[p]at d;cases q:ER m 100000
 case false =>
  obtain rfl:j=V:=by rw[b];simp[q]
  rw[q]at f;clear b
  go_enter Qi,Qj
  go_wp2_with (go_at_call 238;first | (with_reducible refine(d _).mono ?_;rintro e i ⟨rfl,rfl⟩) | (with_reducible refine(f _).mono ?_;rintro e i ⟨rfl,rfl⟩))
  go_ret;exact⟨rfl,c⟩
 rw[q]at f;cases r:ER n 1073741824
 case false =>
  obtain rfl:j=V:=by rw[b];simp[r]
  rw[r]at g;clear b
  go_enter Qi,Qj
  go_wp2_with (go_at_call 238;first | (with_reducible refine(d _).mono ?_;rintro e i ⟨rfl,rfl⟩) | (with_reducible refine(f _).mono ?_;rintro e i ⟨rfl,rfl⟩) | (with_reducible refine(g _).mono ?_;rintro e i ⟨rfl,rfl⟩))
  go_ret;exact⟨rfl,c⟩
 rw[r]at g;obtain rfl:j=Qf:=by rw[b];simp[t,u,v,y,p,q,r]
 clear b
 go_enter Qi,Qj
 go_wp2_with (go_at_call 238;first | (with_reducible refine(d _).mono ?_;rintro e i ⟨rfl,rfl⟩) | (with_reducible refine(f _).mono ?_;rintro e i ⟨rfl,rfl⟩) | (with_reducible refine(g _).mono ?_;rintro e i ⟨rfl,rfl⟩))
 go_ret;exact⟨rfl,c⟩
theorem jZ (b:ByteArray) (w:Qa) :
  Qc Qb 154 #[S b] w fun e w'=>e=Qd (Qu (Cp b.data.toList))/\w'=w:=by
 by_cases d:b.data.toList=Ku
 ·have c:Cp b.data.toList=Qf:=by simp[Cp,d]
  rw[c];have j:=CG d;simp only[Ku]at j
  go_enter Qm,Qn
  go_wp2;go_ret;exact⟨rfl,rfl⟩
 have j:=BH d;simp only[Ku]at j;by_cases f:b.data.toList=IM
 ·have c:Cp b.data.toList=Qf:=by simp[Cp,f]
  rw[c];have k:=CG f;simp only[IM]at k
  go_enter Qm,Qn
  go_wp2;go_ret;exact⟨rfl,rfl⟩
 have k:=BH f;simp only[IM]at k;by_cases g:b.data.toList=Oi0
 ·have c:Cp b.data.toList=Qf:=by simp[Cp,g]
  rw[c];have l:=CG g;simp only[Oi0]at l
  go_enter Qm,Qn
  go_wp2;go_ret;exact⟨rfl,rfl⟩
 have l:=BH g;simp only[Oi0]at l;by_cases i:b.data.toList=IP
 ·have c:Cp b.data.toList=Qf:=by simp[Cp,i]
  rw[c];have m:=CG i;simp only[IP]at m
  go_enter Qm,Qn
  go_wp2;go_ret;exact⟨rfl,rfl⟩
 have m:=BH i;simp only[IP]at m;have c:Cp b.data.toList=V:=by simp[Cp,d,f,g,i]
 rw[c]
 go_enter Qm,Qn
 go_wp2;go_ret;exact⟨rfl,rfl⟩
theorem Ji (s:Sn) (vf:Qg) (w:Qa) (a:Nat->Qh) (h:D4 w a) (hx:Ai w vf s.2.2.2.2.2.2) (hl:s.2.2.2.2.2.2.length<=200) (az:Eb s.2.2.2.2.2.2) :
  Qc Qb 79 #[A9 s vf] w fun e w'=> ∃ev,e=Qd ev/\AU w' a ev (Am s)/\BL w w':=by
 have l:=@gS s;have C:Em s=V->Am s=(2,I):=fun e=>by unfold Am;rw[if_pos e]
 have D:=fun W=>jY s vf W;have ae:=fun W=>jZ s.2.2.2.2.2.1 W;have af:=fun W (y:BL w W)=>KI vf s.2.2.2.2.2.2 W a (h.below y) (hx.below y) hl az;have E:Z _:=fun W (y:BL w W)=>h.below y;have ag:Z (Ai w vf s.2.2.2.2.2.2):=hx;obtain⟨q,g,c,i,j,p,d⟩:=s;unfold A9 at D ⊢;generalize hR:Am (q,g,c,i,j,p,d)=R at l C ⊢;generalize a0:Em (q,g,c,i,j,p,d)=SB at l C D;generalize a1:Cp p.data.toList=OB at l ae;generalize a2:BF d=LE at l af;have F:BL w (w.alloc (A #[O U q,O U g,O U c,O U i,O U j,S p,vf] 40)):=Af _ _;have K:Al (w.alloc (A #[O U q,O U g,O U c,O U i,O U j,S p,vf] 40)) w.heap.size (q,g,c,i,j,p,d) vf:=Al.new w (q,g,c,i,j,p,d) vf;have an:=D (w.alloc (A #[O U q,O U g,O U c,O U i,O U j,S p,vf] 40))
 go_enter func79,ntmps79
 go_wp2_with fail
 refine an.mono ?_;rintro e w1 ⟨rfl,al⟩;have r:BL w w1:=Ad F al;have v:=K.below al;cases SB
 case false =>
  obtain rfl:=C rfl;have et:=(E.out w1 r).file.env.bound;go_wp2;go_ret;exact⟨_,rfl,rfl,r⟩
 case true =>
 replace l:=l rfl;have z5:=v.cells.2.2.2.2.2.1;have ao:=ae w1
 go_wp2_with fail
 refine ao.mono ?_;rintro e w2 ⟨rfl,rfl⟩;cases OB
 case false =>
  obtain rfl:=l.1 rfl;have et:=(E.out w2 r).file.kind;go_wp2;go_ret;exact⟨_,rfl,rfl,r⟩
 case true =>
 obtain⟨aj,ak⟩:=l.2 rfl;have z6:=v.cells.2.2.2.2.2.2;have M:=af w2 r;obtain⟨qf,cf,av⟩:=ag.out.form;subst av;obtain⟨L,hL⟩:∃L,d.length=L:=⟨_,rfl⟩;have HL:Z _:=hL;rw[hL]at M z6 hl v
 go_wp2_with fail
 refine M.mono ?_;rintro e w3 ⟨ev,rfl,ht,am⟩;have ah:=Ad r am;have N:=v.below am;by_cases P:LE.1=0
 case neg =>
  obtain rfl:=aj P;obtain⟨t,u,rfl⟩:=ht.bad P;have HT:Z _:=ht;go_wp2;go_ret;exact⟨_,rfl,HT.out,ah⟩
 case pos =>
 obtain rfl:=ht.ok P;have ai:Z (R=Eo c d 0):=ak P;clear ht aj ak P;have z6:=N.cells.2.2.2.2.2.2;go_wp2
 go_loopw [24] (fun k wr=> ∃n:Nat,n<=L/\k=O U n/\Hx c d n/\BL w wr/\Al wr w.heap.size (q,g,c,i,j,p,d) (G qf L cf)) (fun k _=>L-(intOf k).toNat)
 case atStart=>exact ⟨0,by omega,rfl,gO c d,ah,N⟩
 case round =>
  obtain⟨n,hn,rfl,aw,y,K⟩:=hrel;have Q:Z (Hx c d n):=aw;have ap:Z (Al wr w.heap.size (q,g,c,i,j,p,d) (G qf L cf)):=K;by_cases aq:n<L
  ·have m:n<d.length:=by rw[HL.out];exact aq
   obtain⟨b,o,hq,hc⟩:=(ag.out.below y).cells (fun e=>by rw[e]at m;simp at m);subst hq;obtain⟨c0,c1,c2,c3,c4,c5⟩:=hc n m;have T:=fun e=>gP Q.out m e;have X:=fun e=>gQ Q.out m e;generalize d[n]=f at c0 c1 c2 c3 c4 c5 T X;have Y:=Ja wr f;have z:=Ir wr f;unfold GR at Y z;obtain⟨fp,fq,fn,ax,ay,ad⟩:=f
   go_upto_region 11 with fail
   generalize wr.alloc (A #[S fp,S fq,O U fn,O U ax,O U ay,O U ad] 77)=B at Y z ⊢;have aa:BL w B:=Ad y z;have ab:=ap.out.below z;have ar:Z (Al B w.heap.size (q,g,c,i,j,p,d) (G (J ⟨b,o,I⟩) L cf)):=ab;have z5:=Y.cells.2.2.2.2.2.1;have y2:=ab.cells.2.2.1;by_cases hz:c<ad
   ·have ac:Z (R=(9,J n)):=by
     show _=_;rw[ai.out];exact T hz
    have et:=(E.out B aa).order;have F:BL B (B.alloc (A #[O U n,Qt 410 (Qe (J (a 8)))] 143)):=Af _ _;go_wp2;go_ret;refine⟨_,rfl,?_,(Ad aa F)⟩;rw[ac.out];exact⟨by simp,B.heap.size,rfl,by simp,by simp[Ae]⟩
   ·have au:Z (Hx c d (n+1)):=X hz;go_wp2;go_roundw
    case rel=>exact ⟨n+1,by omega,by go_num,au.out,aa,ar.out⟩
    case measure=>simp [intOf];omega
  ·obtain rfl:n=L:=by omega
   have ac:Z (R=(0,I)):=by
    show _=_;rw[ai.out];have h':=Q.out;rw[<-HL.out]at h';exact gR h'
   go_wp2;go_ret;refine⟨_,rfl,?_,y⟩;rw[ac.out];rfl
theorem kC (v:Qg) (c:List Fl) (w:Qa) (a:Nat->Qh) (h:D4 w a) (hx:Ai w v c) (hl:c.length<=100) (ah:Eb c) :
  Qc Qb 218 #[v] w fun e w'=> ∃ev,e=Qd (.tuple #[S (if (BF c).1=0 then Ab (AL c) else ⟨#[]⟩),ev])/\AU w' a ev (BF c)/\BL w w':=by
 obtain⟨q,ab,rfl⟩:=hx.form;have m:=KI (G q c.length ab) c w a h hx (by omega) ah;have an:Z (Ai w (G q c.length ab) c):=hx;have M:Z (Eb c):=ah;have ao:Z (∀W,BL w W->D4 W a):=fun W F=>h.below F;obtain⟨L,hL⟩:∃L,c.length=L:=⟨_,rfl⟩;have HX:Z (c.length=L):=hL;rw[hL]at hl m ⊢;by_cases g:(BF c).1=0
 ·rw[if_pos g];have N:Z (∀f∈c,At f=0):=fun f hf=>((GJ.1 g).2.1 f hf).1;generalize hR:BF c=R at m ⊢;have HR:Z (R.1=0):=by show _=_;rw[<-hR];exact g
  obtain⟨TT,ac⟩:∃TT,Ab (AL c)=TT:=⟨_,rfl⟩;have C:Z (Ab (AL c)=TT):=ac;rw[ac]
  go_enter func218,ntmps218
  go_wp2_with fail
  refine m.mono ?_;rintro e i ⟨ev,rfl,K,y⟩;obtain rfl:=K.ok HR.out;have ap:Z (∀W,AU W a Q3 R):=fun W=>by
   obtain⟨n,o⟩:=R;have h0:n=0:=HR.out;subst h0
   cases o with
   | none=>rfl
   | some j=>exact absurd rfl K.1
  have aq:BL i (i.alloc (A #[Qe I,G I 0 0] 260)):=Af _ _;have ar:BL w (i.alloc (A #[Qe I,G I 0 0] 260)):=Ad y aq;have l:Qv 260 5 i.heap.size i.heap.size (Qw (AL ([]:List Fl))) (i.alloc (A #[Qe I,G I 0 0] 260)) :=
   Or.inl ⟨Q4 _,G I 0 0,Q5 _ _,World.ownsRow_nil _ _ _ _,by simp[Value.ownBlock]⟩
  have p:=y.size;go_wp2;generalize i.heap.size=B at l p ⊢
  go_loopw [15] (fun k wr=> ∃n:Nat,n<=L/\k=O U n/\BL w wr/\B<wr.heap.size/\Qv 260 5 B B (Qw (AL (c.take n))) wr) (fun k _=>L-(intOf k).toNat)
  case atStart=>exact ⟨0,by omega,rfl,ar,by rcases l with z | z<;>exact z.lt,by simpa using l⟩
  case round =>
   obtain⟨n,hn,rfl,F,ad,z⟩:=hrel;by_cases au:n<L
   ·have d:n<c.length:=by rw[HX.out];exact au
    obtain⟨b,o,hq,hc⟩:=(an.out.below F).cells (fun e=>by rw[e]at d;simp at d);subst hq;obtain⟨c0,c1,c2,c3,c4,c5⟩:=hc n d;obtain⟨k1,k2⟩:=M.out c[n] (Qp _);have k0:=N.out c[n] (Qp _);have r:=fun W (hW:D4 W a)=>fT c[n] W a hW.file (by omega) (by omega);have ai:LN c[n]=Ab (Cb c[n]):=by unfold LN;rw[if_pos k0]
    have a8:=NV k0;have av:=SS (c.take n) (fun f hf=>by
     have hm:=List.mem_of_mem_take hf;have:=M.out f hm;exact⟨N.out f hm,by omega,by omega⟩)
    rw[Qo]at av;have a7:(Qw (AL (c.take n))).length<=30000:=by rw[Lib.byteCells_length];omega
    have aw:(Ab (Cb c[n])).size<=300:=by rw[CR];omega
    have P:Z ((Ab (Cb c[n])).data.toList=Cb c[n]):=by show _=_;simp[Ab]
    have HT:Z _:=gI c n d;rw[ai]at r;generalize Ab (Cb c[n])=tb at r P aw;generalize c[n]=f at c0 c1 c2 c3 c4 c5 r;have D:=Ja wr f;have s:=Ir wr f;unfold GR at D s;obtain⟨fp,fq,fn,a2,a3,am⟩:=f
    go_upto_region 8 with fail
    generalize wr.alloc (A #[S fp,S fq,O U fn,O U a2,O U a3,O U am] 77)=W5 at D s ⊢;have Q:=Ad F s;obtain⟨z0,z1,z2,z3,z4,z5,-⟩:=D.cells;have aj:=r W5 (ao.out W5 Q)
    go_wp2_with fail
    refine aj.mono ?_;rintro e w6 ⟨rfl,ae⟩;have ax:=Ad Q ae;have T:=Ad s ae;have ay:=K1 z T;have X:=Qz ad T.size;have E:=GO B B _ tb w6 ay (by omega) (Qq X)
    go_wp2_with fail
    refine E.mono ?_;rintro e w7 ⟨rfl,a4,af⟩;have ak:=ax.trans (af.mono p);have Y:=Qz X af.size;have E:=GO B B _ ⟨#[10]⟩ w7 (Or.inr a4) (by rw[Q6,Lib.strCells_length];have:(⟨#[10]⟩:ByteArray).size=1:=rfl;omega) (Qq Y)
    go_wp2_with fail
    refine E.mono ?_;rintro e w8 ⟨rfl,a5,ag⟩;have al:=ak.trans (ag.mono p);have az:=Qz Y ag.size;have a0:Z (Qv 260 5 B B (Qw (AL (c.take (n+1)))) w8):=by
     show Qv _ _ _ _ _ _;rw[HT.out,Q7,Q7,<-P.out,<-List.append_assoc];exact Or.inr a5
    go_wp2;go_roundw
    case rel=>exact ⟨n+1,by omega,by go_num,al,az,a0.out⟩
    case measure=>simp [intOf];omega
   ·obtain rfl:n=L:=by omega
    have a1:=List.take_of_length_le (by rw[HX.out];exact Q4 _);rw[a1]at z;have aa:=Builder_String_any B B (AL c) wr z (Qq ad);have eS:(⟨(AL c).toArray⟩:ByteArray)=Ab (AL c):=rfl;rw[eS,C.out]at aa
    go_wp2_with fail
    refine aa.mono ?_;rintro e w2 ⟨rfl,a6⟩;go_wp2;go_ret2;exact⟨_,rfl,ap.out _,F.trans (a6.mono p)⟩
 ·rw[if_neg g]
  go_enter func218,ntmps218
  go_wp2_with fail
  refine m.mono ?_;rintro e i ⟨ev,rfl,K,y⟩;obtain⟨t,u,rfl⟩:=K.bad g;have C:Z _:=K;go_wp2;go_ret2;exact⟨_,rfl,C.out,y⟩
structure KJ (w:Qa) (a:Nat->Qh):Prop where
 text:Gv w a
 sum:w.cell? ⟨9,0,I⟩=J (Qt 410 (Qe (J (a 9))))
theorem KJ.below {w w':Qa} {a:Nat->Qh} (h:KJ w a) (b:BL w w'):KJ w' a:=⟨h.text.below b,Aa b h.sum⟩
theorem Gv.weak {w:Qa} {a:Nat->Qh} (h:Gv w a):BZ w a:=⟨h.text,h.list.file.env.bound,h.list.file.env.base.maxl,h.list.file.env.base.syn,h.list.file.env.base.tab⟩
theorem kD (w:Qa):Qc Qb 69 #[] w fun e w'=>e=Qd (A9 JK (G I 0 0))/\BL w w':=by
 have b:BL w (w.alloc (A #[O U 1,O U 0,O U 0,O U 0,O U 0,S ⟨#[115,116,97,114,116]⟩,G I 0 0] 40)):=Af _ _
 go_enter func69,ntmps69
 go_wp2;refine bodyPost_ret (v:=A9 JK (G I 0 0)) (by simp[results,results69,go_sem,A9,JK]) rfl ⟨rfl,?_⟩;exact b
theorem Ud {s:Sn} (h:(Am s).1=0) (l:Nat) (B:l<4294967296):(DD s l).length<=100:=by
 obtain⟨m,o,z,_⟩:=GK h;obtain⟨⟨⟨a,b⟩,c,d⟩,⟨⟨e,f⟩,g,i⟩,j,k⟩:=IQ.1 m;have p:=FD (n:=s.1) (by omega) (by omega);have q:=FD (n:=s.2.1) (by omega) (by omega);have r:=FD (n:=s.2.2.1) (by omega) (by omega);have t:=FD (n:=s.2.2.2.1) (by omega) (by omega);have u:=FD (n:=s.2.2.2.2.1) (by omega) (by omega);have v:=FD (n:=(l:Int)) (by omega) (by omega);have y:=Sg o;unfold DD;simp only[Q6,List.length_cons];have:FC.length=4:=rfl;omega
theorem kE (s:Sn) (vf:Qg) (b:Nat) (w:Qa) (a:Nat->Qh) (h:BZ w a) (u:(Am s).1=0) (R:b<4294967296) :
  Qc Qb 219 #[A9 s vf,.int .u32 b] w fun e w'=>e=Qd (S (Ab (DD s b)))/\BL w w':=by
 have v:=Ud u b R;obtain⟨⟨⟨Y,b2⟩,b3,b4⟩,⟨⟨b5,b6⟩,b7,b8⟩,b9,X⟩:=IQ.1 (GK u).1;have z:Q8 ([(⟨#[115,110,97,112]⟩:ByteArray),Ab (H s.1),Ab (H s.2.1),Ab (H s.2.2.1),Ab (H s.2.2.2.1),Ab (H s.2.2.2.2.1),s.2.2.2.2.2.1,Ab (H (b:Int))].map (·.data.toList)) (⟨#[32]⟩:ByteArray).data.toList=DD s b:=by
  simp[Q8,DD,FC,Ab]
 obtain⟨l,d,f,i,k,m,F⟩:=s;unfold A9;have T:IntKind.u64.wrap (b:Int)=(b:Int):=by rw[Q9];omega
 have n:BL w (w.alloc (A #[O U l,O U d,O U f,O U i,O U k,S m,vf] 40)):=Af _ _;have r:=Al.new w (l,d,f,i,k,m,F) vf;have o:=h.below n;have y:Z _:=v;have t:Z _:=z
 go_enter func219,ntmps219
 go_wp2_with fail
 generalize w.alloc (A #[O U l,O U d,O U f,O U i,O U k,S m,vf] 40)=q at n r o ⊢;obtain⟨K,L,M,N,P,Q,-⟩:=r.cells;generalize w.heap.size=g at K L M N P Q;have W:BL q q:=Qk _ _
 go_region_held3 (fun w'=>w'.cell? ⟨g,0,I⟩=J (O U l)/\w'.cell? ⟨g,1,I⟩=J (O U d)/\w'.cell? ⟨g,2,I⟩=J (O U f)/\w'.cell? ⟨g,3,I⟩=J (O U i)/\w'.cell? ⟨g,4,I⟩=J (O U k)/\w'.cell? ⟨g,5,I⟩=J (S m)/\BL q w')
  (first
   | (go_split_ands;with_reducible exact⟨Aa c (by assumption),Aa c (by assumption),Aa c (by assumption),Aa c (by assumption),Aa c (by assumption),Aa c (by assumption),Qr (by assumption) (c.mono (Ql (by assumption)))⟩)
   | (go_split_ands;exact⟨by go_keep,by go_keep,by go_keep,by go_keep,by go_keep,by go_keep,by assumption⟩)
   | (go_split_ands;exact⟨by go_keep,by go_keep,by go_keep,by go_keep,by go_keep,by go_keep,Qs (by assumption)⟩)
   | (go_split_ands;exact⟨by go_keep,by go_keep,by go_keep,by go_keep,by go_keep,by go_keep,Below.alloc (by assumption) (Ql (by assumption)) _⟩))
  (first
   | (go_at_call 86;refine(IU _ _ a (o.below (by go_split_ands;assumption)) (by omega) (by omega)).mono ?_;rintro e p ⟨rfl,c⟩)
   | (go_at_call 290;refine(Sw b (by omega) _ a (o.below (by go_split_ands;assumption))).mono ?_;rintro e p ⟨rfl,c⟩))
 go_split_ands;have B:BL q (p.alloc (A #[S ⟨#[115,110,97,112]⟩,S (Ab (H l)),S (Ab (H d)),S (Ab (H f)),S (Ab (H i)),S (Ab (H k)),S m,S (Ab (H (b:Int)))] 9)):=by assumption
 have C:=Ad n B;have D:=strings_Join p.heap.size 0 8 [(⟨#[115,110,97,112]⟩:ByteArray),Ab (H l),Ab (H d),Ab (H f),Ab (H i),Ab (H k),m,Ab (H (b:Int))] ⟨#[32]⟩ (p.alloc (A #[S ⟨#[115,110,97,112]⟩,S (Ab (H l)),S (Ab (H d)),S (Ab (H f)),S (Ab (H i)),S (Ab (H k)),S m,S (Ab (H (b:Int)))] 9)) (fun j x hx=>by
   rw[Nat.zero_add,cell_of_row _ _ _ _ _ _ (Q5 _ _)]
   match j,hx with
   | 0,hx=>simp at hx;subst hx;rfl
   | 1,hx=>simp at hx;subst hx;rfl
   | 2,hx=>simp at hx;subst hx;rfl
   | 3,hx=>simp at hx;subst hx;rfl
   | 4,hx=>simp at hx;subst hx;rfl
   | 5,hx=>simp at hx;subst hx;rfl
   | 6,hx=>simp at hx;subst hx;rfl
   | 7,hx=>simp at hx;subst hx;rfl
   | j+8,hx=>simp at hx) (by simp) (by simp) (by simp) (by rw[t.out];have:=y.out;omega)
 rw[t.out]at D
 go_wp2_with fail
 refine D.mono ?_;rintro e w9 ⟨rfl,E⟩;go_wp2;go_ret;exact⟨rfl,(Ad C E)⟩
theorem kF (s:Sn) (vf:Qg) (w:Qa) (a:Nat->Qh) (h:Gv w a) (X:Ai w vf s.2.2.2.2.2.2) (hl:s.2.2.2.2.2.2.length<=100) (P:Eb s.2.2.2.2.2.2) :
  Qc Qb 136 #[A9 s vf] w fun e w'=> ∃ev,e=Qd (.tuple #[S (if (Am s).1=0 then Ab (BC s) else ⟨#[]⟩),ev])/\AU w' a ev (Am s)/\BL w w':=by
 have f:=fun W (d:BL w W)=>Ji s vf W a (h.below d).list (X.below d) (by omega) P;have Y:=fun W (d:BL w W)=>kC vf s.2.2.2.2.2.2 W a (h.below d).list (X.below d) hl P;by_cases c:(Am s).1=0
 case neg =>
  rw[if_neg c];obtain⟨v,j,k,l,m,y,T⟩:=s;unfold A9 at f ⊢;have i:BL w (w.alloc (A #[O U v,O U j,O U k,O U l,O U m,S y,vf] 40)):=Af _ _;have n:=f _ i
  go_enter func136,ntmps136
  go_wp2_with fail
  refine n.mono ?_;rintro e w1 ⟨ev,rfl,p,o⟩;obtain⟨t,u,rfl⟩:=p.bad c;have Q:Z _:=p;go_wp2;go_ret2;exact⟨_,rfl,Q.out,(Ad i o)⟩
 case pos =>
 rw[if_pos c];have aa:=(GK c).2.2.1;have C:=Hn (AL s.2.2.2.2.2.2);have ab:=Ud c (Ba (AL s.2.2.2.2.2.2)) C;have ac:=(N4 c).2;have D:Z _:=(GK c).2.2.2;have E:=fun W (d:BL w W)=>kE s vf (Ba (AL s.2.2.2.2.2.2)) W a (h.below d).weak c C;have ag:(Ab (AL s.2.2.2.2.2.2)).size<=6060:=by rw[CR];exact ac
 have ah:(Ab (DD s (Ba (AL s.2.2.2.2.2.2)))).size<=100:=by rw[CR];exact ab
 have F:=fun W=>Ky (Ab (AL s.2.2.2.2.2.2)) W (by unfold maxLen;omega);have eL:(Ab (AL s.2.2.2.2.2.2)).data.toList=AL s.2.2.2.2.2.2:=by simp[Ab]
 rw[eL]at F;have Q:Z (Ab (BC s)=Ab (DD s (Ba (AL s.2.2.2.2.2.2)))++⟨#[10]⟩++Ab (AL s.2.2.2.2.2.2)):=by
  show _=_;rw[<-Dy (Ab (DD s (Ba (AL s.2.2.2.2.2.2)))++⟨#[10]⟩++Ab (AL s.2.2.2.2.2.2))];congr 1;simp[BC,Ab,ByteArray.data_append]
 rw[Q.out];have ad:Z _:=aa;generalize aj:Am s=RE at f D ⊢;obtain rfl:RE=(0,I):=D.out;generalize Ab (DD s (Ba (AL s.2.2.2.2.2.2)))=d at *;generalize Ab (AL s.2.2.2.2.2.2)=bd at *;obtain⟨q,z,rfl⟩:=X.form;obtain⟨v,j,k,l,m,y,T⟩:=s;unfold A9 at f E ⊢;generalize T.length=L at *;have n0:¬9223372036854775807<d.size+1:=by omega
 have n2:¬9223372036854775807<d.size+1+bd.size:=by omega
 have i:BL w (w.alloc (A #[O U v,O U j,O U k,O U l,O U m,S y,G q L z] 40)):=Af _ _;have ae:=Al.new w (v,j,k,l,m,y,T) (G q L z);have n:=f _ i
 go_enter func136,ntmps136
 go_wp2_with fail
 refine n.mono ?_;rintro e w1 ⟨ev,rfl,p,o⟩;obtain rfl:ev=Q3:=p;have K:=Ad i o;have r:=ae.below o;have z6:=r.cells.2.2.2.2.2.2;have R:=Y w1 K
 go_wp2_with fail
 refine R.mono ?_;rintro e B ⟨ev,rfl,p,N⟩;obtain rfl:=p.ok ad.out;have M:=Ad K N;obtain⟨z0,z1,z2,z3,z4,z5,z6⟩:=(r.below N).cells;have ai:BL B B:=Qk _ _;have af:Z _:=fun W (hW:BL B W)=>E W (Ad M hW);generalize w.heap.size=g at z0 z1 z2 z3 z4 z5 z6
 go_wp2_with fail
 go_region_held3 (fun w'=>w'.cell? ⟨g,0,I⟩=J (O U v)/\w'.cell? ⟨g,1,I⟩=J (O U j)/\w'.cell? ⟨g,2,I⟩=J (O U k)/\w'.cell? ⟨g,3,I⟩=J (O U l)/\w'.cell? ⟨g,4,I⟩=J (O U m)/\w'.cell? ⟨g,5,I⟩=J (S y)/\w'.cell? ⟨g,6,I⟩=J (G q L z)/\BL B w')
  (first
   | (go_split_ands;with_reducible exact⟨Aa b (by assumption),Aa b (by assumption),Aa b (by assumption),Aa b (by assumption),Aa b (by assumption),Aa b (by assumption),Aa b (by assumption),Qr (by assumption) (b.mono (Ql (by assumption)))⟩)
   | (go_split_ands;exact⟨by go_keep,by go_keep,by go_keep,by go_keep,by go_keep,by go_keep,by go_keep,by assumption⟩)
   | (go_split_ands;exact⟨by go_keep,by go_keep,by go_keep,by go_keep,by go_keep,by go_keep,by go_keep,Qs (by assumption)⟩))
  (first
   | (go_at_call 171;with_reducible refine(F _).mono ?_;rintro e wX ⟨rfl,b⟩)
   | (go_at_call 219;with_reducible refine(af.out _ (by go_split_ands;assumption)).mono ?_;rintro e wX ⟨rfl,b⟩))
 go_split_ands;have hX:BL B wX:=by assumption
 go_wp2;go_ret2;exact⟨_,rfl,rfl,(Ad M hX)⟩
theorem kG (f:Fl) (p:ByteArray) (g:Nat) (w:Qa) (k:w.cell? ⟨g,0,I⟩=J (S p)) :
  Qc Qb 158 #[A1 f,Qe (J ⟨g,0,I⟩)] w fun e w'=>e=Qd (Qu (decide (f.1=p)))/\BL w w':=by
 have b:BL w (w.alloc (A #[S f.1,S f.2.1,O U f.2.2.1,O U f.2.2.2.1,O U f.2.2.2.2.1,O U f.2.2.2.2.2] 77)):=Af _ _;have l:=Aa b k;unfold A1;obtain⟨d,o,q,m,n,j⟩:=f;by_cases c:d=p
 ·subst c;have i:(d.toList == d.toList)=Qf:=by simp
  rw[decide_eq_true rfl]
  go_enter Q0,ntmps158
  go_upto_region 1 with fail
  go_wp2;go_ret;exact⟨rfl,b⟩
 ·have i:=K2 (fun e=>c (Ii e));rw[decide_eq_false c]
  go_enter Q0,ntmps158
  go_upto_region 1 with fail
  go_wp2;go_ret;exact⟨rfl,b⟩
theorem kH (v:Qg) (c:List Fl) (p:ByteArray) (t:Nat) (w:Qa) (hx:Ai w v c) (hl:c.length<=20000) (hp:w.cell? ⟨t,0,I⟩=J (S p)) :
  Qc Qb 157 #[v,.func (.func 158) #[] #[Qe (J ⟨t,0,I⟩)]] w fun e w'=>e=Qd (O U (Df c p))/\BL w w':=by
 have eg:∀args w,(callFunc 158 args).run Qb w= .ok (.enter 158 args) w:=enters_of Q0 (by kernel_rfl) rfl;obtain⟨q,F,rfl⟩:=hx.form;have y:Z (Ai w (G q c.length F) c):=hx;have HP:Z (∀W,BL w W->W.cell? ⟨t,0,I⟩=J (S p)):=fun W i=>Aa i hp;obtain⟨L,K⟩:∃L,c.length=L:=⟨_,rfl⟩;have z:Z (c.length=L):=K;rw[K]at hl ⊢;generalize hR:Df c p=R;have B:Z (Df c p=R):=hR
 go_enter func157,ntmps157
 go_wp2
 go_loopw [8] (fun k wr=> ∃n:Nat,n<=L/\k=O U n/\(∀j (h:j<c.length),j<n->c[j].1≠p)/\BL w wr) (fun k _=>L-(intOf k).toNat)
 case atStart=>exact ⟨0,by omega,rfl,fun j h h'=>absurd h' (Q2 _),Qk _ _⟩
 case round =>
  obtain⟨n,hn,rfl,M,i⟩:=hrel;have l:Z (∀j (h:j<c.length),j<n->c[j].1≠p):=M;by_cases C:n<L
  ·have d:n<c.length:=by rw[z.out];exact C
   obtain⟨b,o,hq,hc⟩:=(y.out.below i).cells (fun e=>by rw[e]at d;simp at d);subst hq;obtain⟨N,P,Q,T,X,Y⟩:=hc n d;have g:=kG c[n] p t wr (HP.out wr i);by_cases s:c[n].1=p
   ·have m:R=n:=by rw[<-B.out];exact Mg d l.out s
    subst m;rw[decide_eq_true s]at g;generalize c[n]=f at N P Q T X Y g;obtain⟨fp,fq,fn,aa,ab,u⟩:=f
    go_wp2_with (go_at_fn 158;refine g.mono ?_;rintro e w2 ⟨rfl,r⟩)
    go_ret;exact⟨rfl,(Ad i r)⟩
   ·have D:Z (∀j (h:j<c.length),j<n+1->c[j].1≠p):=fW l.out d s;rw[decide_eq_false s]at g;generalize c[n]=f at N P Q T X Y g;obtain⟨fp,fq,fn,aa,ab,u⟩:=f
    go_wp2_with (go_at_fn 158;refine g.mono ?_;rintro e w2 ⟨rfl,r⟩)
    have E:BL w w2:=Ad i r;go_roundw
    case rel=>exact ⟨n+1,by omega,by go_num,D.out,E⟩
    case measure=>simp [intOf];omega
  ·obtain rfl:n=L:=by omega
   have m:R= -1:=by rw[<-B.out];exact SN (fun j hj=>l.out j hj (by rw[<-z.out];exact hj))
   subst m;go_wp2;go_ret;exact⟨rfl,i⟩
theorem JT (v:Qg) (b:List Fl) (p:ByteArray) (w:Qa) (g:Ai w v b) (i:b.length<=20000) :
  Qc Qb 83 #[v,S p] w fun e w'=>e=Qd (O U (Df b p))/\BL w w':=by
 have c:BL w (w.alloc (A #[S p] 9)):=Af _ _;have d:=kH v b p w.heap.size (w.alloc (A #[S p] 9)) (g.below c) i (by simp);obtain⟨q,j,rfl⟩:=g.form
 go_enter func83,ntmps83
 go_wp2_with fail
 refine d.mono ?_;rintro e k ⟨rfl,f⟩;go_wp2;go_ret;exact⟨rfl,(Ad c f)⟩
end Go.Proofs.YtcllhobffhkafaaGreatDoor
