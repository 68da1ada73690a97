/- By an AI agent. -/
import Derived.Test.YtcllhobffhkafaaGreatDoorDataRead
import Derived.Maps.AppendAt
import Derived.Deep.Onto
set_option maxRecDepth 100000
set_option maxHeartbeats 16000000
open Go.Proofs.Tryz
open Go renaming World->A,Addr->Qh,Calls->Qi,lt_of_block->Qj,maxLen->Qq,heap_alloc_new->Qr,cell_of_row->Qs,run_eql_struct->Qu
open Go.Ending renaming returned->Qg
open Go.IntKind renaming i64->U
open Go.Obj renaming cells->J
open Go.Proofs.Tryz renaming prog->Qa,func118->Qn,ntmps118->Qo,func209->Qp
open Go.RowKit renaming Hid->Z
open Go.Value renaming int->O,pointer->G,string->Qc,iface->Qe,nilIface->Qk,tuple->Ql
open List renaming length_append->Qm
open Nat renaming le_trans->Qd,succ_ne_zero->Qt
open Option renaming some->I,none->S
open Or renaming inr->Qb,inl->Qf
namespace Go.Proofs.YtcllhobffhkafaaGreatDoor
open Go.RowKit Go.Extern.Stop Go.Stop Go.Extern Go.Sort Go.Shelf Go.Lib
def LZ:Value->Nat
 | .string s=>s.size
 | _=>0
def Cx {β:Type} (k:FK β) (acc:List β) (l:List UInt8):Nat:=if (k.rd l).2≠0 then (k.rd l).2 else if acc≠ []/\k.bad (k.rd l).1 (acc.getLastD k.d)=true then 9 else 0
theorem S5 {β:Type} (k:FK β) (l:List UInt8) (r:List (List UInt8)) (i:r≠ []) (c:Nat) (b:List β):AP k (l :: r) c b=if Cx k b l≠0 then ([],Cx k b l,c) else AP k r (c+1) (b++ [(k.rd l).1]):=by
 obtain⟨j,m,rfl⟩:=List.exists_cons_of_ne_nil i;rw[J9];unfold Cx;by_cases f:(k.rd l).2≠0
 ·simp only[if_pos f]
 ·simp only[if_neg f];by_cases g:b≠ []/\k.bad (k.rd l).1 (b.getLastD k.d)=true
  ·simp only[if_pos g];rfl
  ·simp only[if_neg g];rfl
structure IV {β:Type} (k:FK β) (a:Nat->Qh) (En:A->Prop) (F bl B P Q:Nat) (Inv:A->List β->Prop):Prop where
 env:∀ {W:A},En W->DM W a
 ent:∀args w,(callFunc F args).run Qa w= .ok (.enter F args) w
 low:B<=P
 keep:∀ {W W':A} {acc:List β},Inv W acc->BL W W'->Inv W' acc
 set:∀ {W:A} {acc:List β} (j o:Nat) (u:Value),P<=j->j<Q->Inv W acc->Inv (W.setCell ⟨j,o,S⟩ u) acc
 take:∀(W:A) (line:ByteArray) (acc:List β),En W->Inv W acc->Q<=W.heap.size->line.size<=100000->acc.length<=100000 ->
  Qi Qa F #[Qc line,G (I ⟨bl,0,S⟩)] W fun e w'=>Below B W w'/\(∀j,P<=j->j<Q->w'.heap[j]? =W.heap[j]?) /\
   ((Cx k acc line.data.toList≠0/\e=Qg (Ql #[O U 0,Ae a (Cx k acc line.data.toList)])/\Inv w' acc) \/
    (Cx k acc line.data.toList=0/\e=Qg (Ql #[O U (k.key (k.rd line.data.toList).1),Qk])/\Inv w' (acc++ [(k.rd line.data.toList).1])))
def Es (W:A) (t F bl:Nat):Prop:=W.heap[t]? =I (J #[.func (.func F) #[] #[G (I ⟨bl,0,S⟩)]] 182 (0,0))
theorem Es.cell {W:A} {t F b:Nat} (h:Es W t F b):W.cell? ⟨t,0,S⟩=I (.func (.func F) #[] #[G (I ⟨b,0,S⟩)]):=cell_of_one h
theorem Es.below {W b:A} {t F c:Nat} (h:Es W t F c) (d:BL W b):Es b t F c:=by
 exact(d.block t (Qj h)).trans h
theorem eV {β:Type} {k:FK β} {a:Nat->Qh} {En:A->Prop} {F m B P Q:Nat} {o:A->List β->Prop} (T:IV k a En F m B P Q o) (t g:Nat) (c:ByteArray) (b:List β) (W:A) (hE:En W) (hI:o W b) (hQ:Q<=W.heap.size) (hF:Es W t F m) (hH:Bb W g b.length (Ap (A6 k b))) (v:P<=t/\t<Q) (i:P<=g/\g<Q) (ad:t≠g) (hs:c.size<=100000) (hl:b.length<=100000) :
  Qi Qa 209 #[Qc c,G (I ⟨t,0,S⟩),G (I ⟨g,0,S⟩)] W fun e w'=>Below B W w'/\Es w' t F m/\(∀j,P<=j->j<Q->j≠g->w'.heap[j]? =W.heap[j]?) /\
   ((Cx k b c.data.toList≠0/\e=Qg (Ae a (Cx k b c.data.toList))) \/
    (Cx k b c.data.toList=0/\e= .returned Qk/\o w' (b++ [(k.rd c.data.toList).1])/\Bb w' g (b.length+1) (Ap (A6 k (b++ [(k.rd c.data.toList).1]))))):=by
 have eg:=T.ent;have n:=T.take W c b hE hI hQ hs hl;have hc:=hF.cell;have K:=Qd T.low i.1;have y:Z _:=hF;have L:Z _:=hH;have p:Z (Ap (A6 k (b++ [(k.rd c.data.toList).1]))=Cc b.length (Ap (A6 k b)) (k.key (k.rd c.data.toList).1)):=by
  show _=_;have:=N9 (A6 k b) (k.key (k.rd c.data.toList).1);rw[show (A6 k b).length=b.length by simp[A6]]at this;rw[<-this];simp[A6]
 have C:Z _:=T;obtain⟨E,z⟩:∃E,Cx k b c.data.toList=E:=⟨_,rfl⟩;rw[z]at n;simp only[z];obtain⟨x,hx⟩:∃x,(k.rd c.data.toList).1=x:=⟨_,rfl⟩;rw[hx]at n p;simp only[hx];by_cases q:E=0
 ·subst q;have f:Qi Qa F #[Qc c,G (I ⟨m,0,S⟩)] W fun e w'=>e=Qg (Ql #[O U (k.key x),Qk])/\Below B W w'/\(∀j,P<=j->j<Q->w'.heap[j]? =W.heap[j]?)/\o w' (b++ [x]):=n.mono fun e w' ⟨h1,h2,h3⟩=>by
   rcases h3 with⟨h,_⟩|⟨_,h,h'⟩
   · exact absurd rfl h
   · exact⟨h,h1,h2,h'⟩
  generalize k.key x=ac at f p
  go_enter Qp,ntmps209
  go_wp2_with (go_at_fn F;refine f.mono ?_;rintro e s ⟨rfl,u,d,ab⟩)
  have l:Es s t F m:=by have:=y.out;unfold Es at *;rw[d t v.1 v.2];exact this
  have r:Bb s g b.length (Ap (A6 k b)):=by have:=L.out;unfold Bb at *;rw[d g i.1 i.2];exact this
  have M:Z _:=d;have N:Z _:=l;have R:=NF g b.length (Ap (A6 k b)) ac s r hl;have X:Z _:=ab;have Y:Z _:=r;refine R.mono ?_;rintro e w2 ⟨rfl,rfl⟩;go_wp2;go_ret;refine⟨ND u K,?_,fun j h1 h2 h3=>?_,Qb ⟨by first | rfl | trivial,rfl,?_,?_⟩⟩
  ·have:=N.out;unfold Es at *;rw[Sx _ _ _ _ _ ad];exact this
  ·rw[Sx _ _ _ _ _ h3];exact M.out j h1 h2
  ·exact C.out.set g 0 _ i.1 i.2 (C.out.set g 2 _ i.1 i.2 (C.out.set g 1 _ i.1 i.2 X.out))
  ·rw[p.out];exact NA Y.out
 ·obtain⟨D,aa⟩:∃D,E=D+1:=⟨E-1,by omega⟩;subst aa;have f:Qi Qa F #[Qc c,G (I ⟨m,0,S⟩)] W fun e w'=>e=Qg (Ql #[O U 0,Qe 410 (G (I (a D)))])/\Below B W w'/\(∀j,P<=j->j<Q->w'.heap[j]? =W.heap[j]?):=n.mono fun e w' ⟨h1,h2,h3⟩=>by
   rcases h3 with⟨_,h,_⟩|⟨h,_⟩
   · exact⟨h,h1,h2⟩
   · exact absurd h q
  go_enter Qp,ntmps209
  go_wp2_with (go_at_fn F;refine f.mono ?_;rintro e s ⟨rfl,u,d⟩)
  have l:Es s t F m:=by have:=y.out;unfold Es at *;rw[d t v.1 v.2];exact this
  go_ret;exact⟨u,l,fun j h1 h2 _=>d j h1 h2,Qf ⟨q,rfl⟩⟩
def eX {β:Type} (k:FK β) (W:A) (a:Nat->Qh) (B P Q g:Nat) (Inv:A->List β->Prop) (R:List β×Nat×Nat) (e:Ending) (w':A):Prop :=
 Below B W w'/\(∀j,P<=j->j<Q->j≠g->w'.heap[j]? =W.heap[j]?)/\((R.2.1=0/\e= .returned Qk/\Inv w' R.1/\Bb w' g R.1.length (Ap (A6 k R.1))) \/
  (R.2.1≠0/\∃fb,e=Qg (Qe 140 (G (I ⟨fb,0,S⟩)))/\w'.cell? ⟨fb,0,S⟩=I (O U R.2.2)/\w'.cell? ⟨fb,1,S⟩=I (Ae a R.2.1)))
theorem Ma {B W w w' P Q g} (_:Below B W w) (h:∀j,P<=j->j<Q->j≠g->w.heap[j]? =W.heap[j]?) (b:Q<=w.heap.size) (c:BL w w'):∀j,P<=j->j<Q->j≠g->w'.heap[j]? =W.heap[j]? :=
 fun j h1 h2 h3=>(c.block j (Nat.lt_of_lt_of_le h2 b)).trans (h j h1 h2 h3)
theorem eY {β:Type} {k:FK β} {a:Nat->Qh} {En:A->Prop} {F bl B P Q:Nat} {u:A->List β->Prop} (T:IV k a En F bl B P Q u) (t g:Nat) (p:ByteArray) (W:A) (C:∀W',Below B W W'->En W') (hI:u W []) (hQ:Q<=W.heap.size) (aq:B<=W.heap.size) (hF:Es W t F bl) (hH:Bb W g 0 (0,0)) (ht:P<=t/\t<Q) (hg:P<=g/\g<Q) (be:t≠g) (hs:p.size<=20000) :
  Qi Qa 208 #[Qc p,.func (.func 209) #[] #[G (I ⟨t,0,S⟩),G (I ⟨g,0,S⟩)]] W fun e w'=>eX k W a B P Q g u (AP k (Av 10 p.data.toList) 0 []) e w':=by
 have eg:∀args w,(callFunc 209 args).run Qa w= .ok (.enter 209 args) w:=enters_of Qp (by kernel_rfl) rfl;obtain⟨R,hR⟩:∃R,AP k (Av 10 p.data.toList) 0 []=R:=⟨_,rfl⟩;rw[hR];have HR:Z (AP k (Av 10 p.data.toList) 0 []=R):=hR;clear hR;have HT:Z (IV k a En F bl B P Q u):=T;have ar:Bb W g ([]:List β).length (Ap (A6 k [])):=hH;clear T hH
 go_enter func208,ntmps208
 go_wp2
 go_loopw [0,5] (fun sv n wr=> ∃(rest:ByteArray) (b:List β),sv=Qc rest/\n=O U b.length/\rest.size+b.length<=20000/\Below B W wr/\(∀j,P<=j->j<Q->j≠g->wr.heap[j]? =W.heap[j]?)/\u wr b/\Es wr t F bl/\Bb wr g b.length (Ap (A6 k b))/\AP k (Av 10 rest.data.toList) b.length b=R) (fun sv _ _=>LZ sv)
 case atStart=>exact ⟨p, [],rfl,rfl,by simpa using hs,Below.refl _ _,fun _ _ _ _=>rfl,hI,hF,ar,HR.out⟩
 case round =>
  clear hI hF ar;obtain⟨rest,b,rfl,rfl,bc,M,a1,N,ae,X,ao⟩:=hrel;have aa:Z (AP k (Av 10 rest.data.toList) b.length b=R):=ao;have ag:Z (∀j,P<=j->j<Q->j≠g->wr.heap[j]? =W.heap[j]?):=a1;clear ao HR a1;have ah:=C wr M;have au:Q<=wr.heap.size:=Qd hQ M.size;have av:=Qd aq M.size;obtain⟨n,hn⟩:∃n,b.length=n:=⟨_,rfl⟩;have HN:Z _:=hn;rw[hn]at bc;simp only[hn];by_cases he:rest.size=0
  ·have ai:=List.length_eq_zero_iff.1 (by rw[AA];exact he);have a6:=CG ai;have c:Z (R=(b,0,0)):=by
    show _=_;rw[<-aa.out,ai];rfl
   have aw:Z (u wr b/\Bb wr g b.length (Ap (A6 k b))):=⟨N,X⟩;clear ai N X ae;go_wp2;go_ret;refine⟨M,ag.out,Qf ⟨by rw[c.out],rfl,?_,?_⟩⟩
   ·rw[c.out];exact aw.out.1
   ·rw[c.out];exact aw.out.2
  ·have ad:rest.data.toList≠ []:=fun e=>he (by rw[<-AA,e];rfl);have a6:(rest.toList == [])=false:=BH ad;obtain⟨mx,ap⟩:=(HT.out.env ah).env.maxl;have hcut:=strings_Cut rest ⟨#[10]⟩ mx wr (by omega) ap;dsimp only at hcut;rcases Hl 10 rest.data.toList with⟨Y,hc⟩|⟨i,m,hl,Y,hc⟩
   ·rw[hc]at hcut;dsimp only at hcut;have c:Z (R=([],1,n)):=by
     show _=_;rw[<-aa.out,J6 10 _ Y,Kr,if_neg ad,HN.out]
    clear hc Y ad N X ae;generalize (⟨rest.data.toList.toArray⟩:ByteArray)=fB at hcut
    go_wp2_with fail
    refine hcut.mono ?_;rintro e w1 ⟨rfl,q,rfl⟩;clear hcut;have l:BL wr (wr.drewN q):=AH (Below.refl _ _) q;have d:Below B W (wr.drewN q):=M.trans (l.mono av);have v:Z (∀j,P<=j->j<Q->j≠g->(wr.drewN q).heap[j]? =W.heap[j]?):=Ma M ag.out au l;have ht:=(HT.out.env (C _ d)).env.text;have D:Q<=(wr.drewN q).heap.size:=Qd hQ d.size;clear ah ap l;generalize wr.drewN q=W1 at d ht v D ⊢;have K:BL W1 (W1.alloc (J #[O U n,Qe 410 (G (I (a 0)))] 143)):=Af _ _;have L:Below B W (W1.alloc (J #[O U n,Qe 410 (G (I (a 0)))] 143)):=d.trans (K.mono (Qd aq d.size));have a7:Z (∀j,P<=j->j<Q->j≠g->(W1.alloc (J #[O U n,Qe 410 (G (I (a 0)))] 143)).heap[j]? =W.heap[j]?):=Ma d v.out D K;go_wp2;go_ret;exact⟨L,a7.out,Qb ⟨by rw[c.out];exact Nat.one_ne_zero,W1.heap.size,rfl,by rw[c.out];simp,by rw[c.out];simp[Ae]⟩⟩
   ·rw[hc]at hcut;dsimp only at hcut;have a5:i.length+m.length+1=rest.size:=by rw[<-AA,hl];simp;omega
    have r:R=if Cx k b i≠0 then ([],Cx k b i,n) else AP k (Av 10 m) (n+1) (b++ [(k.rd i).1]):=by
     rw[<-aa.out,hl,Hk 10 i m Y,S5 k i _ (J7 10 m),HN.out]
    have eA:(⟨i.toArray⟩:ByteArray)=Ab i:=rfl;have eB:(⟨m.toArray⟩:ByteArray)=Ab m:=rfl;rw[eA,eB]at hcut;have ax:(Ab i).data.toList=i:=by simp[Ab]
    have ay:(Ab m).data.toList=m:=by simp[Ab]
    have aj:(Ab i).size<=100000:=by rw[CR];omega
    have ab:(Ab m).size+n+1<=20000/\(Ab m).size<rest.size:=by rw[CR];omega
    have ak:b.length<=100000:=by rw[HN.out];omega
    clear hc Y ad hl eA eB a5
    go_wp2_with fail
    refine hcut.mono ?_;rintro e w1 ⟨rfl,q,rfl⟩;clear hcut;have l:BL wr (wr.drewN q):=AH (Below.refl _ _) q;have d:Below B W (wr.drewN q):=M.trans (l.mono av);have v:Z (∀j,P<=j->j<Q->j≠g->(wr.drewN q).heap[j]? =W.heap[j]?):=Ma M ag.out au l;have az:=C _ d;have D:Q<=(wr.drewN q).heap.size:=Qd hQ d.size;have al:=HT.out.keep N l;have ac:=ae.below l;have am:=X.below l;clear N ae X ah ap l;generalize wr.drewN q=W1 at d v az D al ac am ⊢;have f:=eV HT.out t g (Ab i) b W1 az al D ac am ht hg be aj ak;rw[ax]at f;have an:Z ((Ab m).data.toList=m):=ay;clear al ac am ax ay ak;obtain⟨E,a2⟩:∃E,Cx k b i=E:=⟨_,rfl⟩;rw[a2]at f r;clear a2;by_cases a0:E=0
    ·subst a0;rw[if_neg (by simp)]at r;have c:Z (AP k (Av 10 m) (n+1) (b++ [(k.rd i).1])=R):=r.symm;clear r;simp only[ne_eq,not_true_eq_false,false_and,false_or,true_and]at f;generalize (k.rd i).1=x at f c;generalize Ab i=lA at f aj ⊢;generalize Ab m=lB at ab an ⊢
     go_wp2_with (go_at_fn 209;refine f.mono ?_;rintro e o ⟨L,af,s,rfl,a3,a4⟩)
     have y:Below B W o:=d.trans L;have z:Z ((∀j,P<=j->j<Q->j≠g->o.heap[j]? =W.heap[j]?)/\u o (b++ [x])/\Es o t F bl/\Bb o g (b++ [x]).length (Ap (A6 k (b++ [x])))) :=
      ⟨fun j h1 h2 h3=>(s j h1 h2 h3).trans (v.out j h1 h2 h3),a3,af,by rw[Qm];exact a4⟩
     clear s a3 af a4 f;go_roundw
     case rel=>exact ⟨lB,b++ [x],rfl,by rw[Qm,HN.out];go_num,by rw[Qm,HN.out];simp;omega,y,z.out.1,z.out.2.1,z.out.2.2.1,z.out.2.2.2,by rw[an.out,Qm,HN.out];exact c.out⟩
     case measure=>simp only[LZ];exact ab.2
    ·rw[if_pos a0]at r;obtain⟨E',bd⟩:∃E',E=E'+1:=⟨E-1,by omega⟩;subst bd;have c:Z (R=([],E'+1,n)):=r;clear r;simp only[Ae,ne_eq,Qt,not_false_eq_true,false_and,or_false,true_and]at f;generalize Ab i=lA at f aj ⊢;generalize Ab m=lB at ab an ⊢
     go_wp2_with (go_at_fn 209;refine f.mono ?_;rintro e o ⟨L,af,s,rfl⟩)
     have y:Below B W o:=d.trans L;have a8:Z (∀j,P<=j->j<Q->j≠g->o.heap[j]? =W.heap[j]?):=fun j h1 h2 h3=>(s j h1 h2 h3).trans (v.out j h1 h2 h3);have a9:Q<=o.heap.size:=Qd hQ y.size;have K:BL o (o.alloc (J #[O U n,Qe 410 (G (I (a E')))] 143)):=Af _ _;have ba:Below B W (o.alloc (J #[O U n,Qe 410 (G (I (a E')))] 143)):=y.trans (K.mono (Qd aq y.size));have bb:Z (∀j,P<=j->j<Q->j≠g->(o.alloc (J #[O U n,Qe 410 (G (I (a E')))] 143)).heap[j]? =W.heap[j]?):=Ma y a8.out a9 K;clear s af f;go_wp2;go_ret;exact⟨ba,bb.out,Qb ⟨by rw[c.out];exact Qt _,o.heap.size,rfl,by rw[c.out];simp,by rw[c.out];simp[Ae]⟩⟩
abbrev Hd:=Int×Int×Int
def Mb (x:Hd):List Value:= [O U x.1,O U x.2.1,O U x.2.2]
theorem S6:EqlAt Qa 256 (fun x:Hd=>.agg (Mb x).toArray) (fun x y=>decide (x=y)):=by
 refine⟨fun x y w=>?_,GuardAt.agg _ (by kernel_rfl)⟩;have b:Tryz.prog.underlying 256=I (.struct (Tryz.prog.fieldsOf 256)):=by kernel_rfl
 have c:Tryz.prog.stoodInHeld 256=false:=by kernel_rfl
 obtain⟨i,j,k⟩:=x;obtain⟨l,m,n⟩:=y;simp only[Mb];rw[Qu,show (10000:Nat)=9999+1 from rfl,run_equalIn_agg w 9999 256 _ _ b c];simp only[Program.fieldsOf,underlying256]
 go_simp
 by_cases d:i=l<;>by_cases f:j=m<;>by_cases g:k=n<;>simp [d,f,g]
theorem S7:NeqAt Qa 256 (fun x:Hd=>.agg (Mb x).toArray) (fun x y=>decide (x=y)):=by
 refine⟨fun x y w=>?_,S6.2⟩;have h:=S6.1 x y w;rw[Qu]at h;rw[run_neq_struct];generalize Sem.run Qa (Op.equalIn 10000 256 _ _) w=r at h ⊢
 cases r with
 | ok b w' =>
  simp only[Result.andThen,Result.ok.injEq,Value.bool.injEq]at h ⊢;exact⟨by rw[h.1],h.2⟩
 | halt z w'=>simp [Result.andThen]at h
def eZ {β:Type} (B:Nat) (w:A) (a:Nat->Qh) (Inv:Nat->A->List β->Prop) (D:List β×Nat×Option Nat) (e:Ending) (w':A):Prop :=
 Below B w w'/\((D.2.1=0/\e= .returned Qk/\∃Q,Inv Q w' D.1) \/
  (D.2.1≠0/\D.1= []/\D.2.2=S/\e=Qg (Ae a D.2.1)) \/
  (D.2.1≠0/\D.1= []/\∃at_,D.2.2=I at_/\∃fb,e=Qg (Qe 140 (G (I ⟨fb,0,S⟩)))/\w'.cell? ⟨fb,0,S⟩=I (O U at_)/\w'.cell? ⟨fb,1,S⟩=I (Ae a D.2.1)))
theorem S8 {β:Type} (k:FK β) (kb s:ByteArray) (bz:kb.data.toList=k.word) (w:A) (a:Nat->Qh) (En:A->Prop) (F bl B:Nat) (aa:Nat->A->List β->Prop) (v:B<=w.heap.size) (az:∀W',Below B w W'->En W')
  (T:∀Q,IV k a En F bl B w.heap.size Q (aa Q)) (hI:∀Q W',BL w W'->Q<=W'.heap.size->aa Q W' []) (hs:s.size<=Qq) :
  Qi Qa 118 #[Qc kb,Qc s,.func (.func F) #[] #[G (I ⟨bl,0,S⟩)]] w fun e w'=>eZ B w a aa (BP k s.data.toList) e w':=by
 have m:∀W',Below B w W'->DM W' a:=fun W' hW=>(T 0).env (az W' hW);unfold Qq at hs;have ab:=AA s;have n:BL w (w.alloc (J #[.func (.func F) #[] #[G (I ⟨bl,0,S⟩)]] 182)):=Af _ _;have u:Es (w.alloc (J #[.func (.func F) #[] #[G (I ⟨bl,0,S⟩)]] 182)) w.heap.size F bl:=Qr _ _;by_cases b0:20000<s.size
 ·have L:Z (BP k s.data.toList=([],2,S)):=by show _=_;unfold BP;rw[if_pos (by omega)]
  have bi:(20000:Int)<(s.size:Int):=by omega
  have b1:=(m _ (n.mono v)).env.bound;clear ab
  go_enter Qn,Qo
  go_wp2;go_ret;refine⟨n.mono v,?_⟩;rw[L.out];exact Qb (Qf ⟨by simp,rfl,rfl,rfl⟩)
 ·have bi:¬(20000:Int)<(s.size:Int):=by omega
  have X:¬20000<s.data.toList.length:=by omega
  have aq:=m _ (n.mono v);obtain⟨mx,M⟩:=aq.env.maxl;have hcut:=strings_Cut s ⟨#[10]⟩ mx _ (by omega) M;dsimp only at hcut;rcases Hl 10 s.data.toList with⟨ay,hc⟩|⟨la,p,hl,ay,hc⟩
  ·have L:Z (BP k s.data.toList=([],1,S)):=by show _=_;unfold BP;rw[if_neg X,hc];rfl
   rw[hc]at hcut;dsimp only at hcut;have eA:(⟨s.data.toList.toArray⟩:ByteArray)=Ab s.data.toList:=rfl;rw[eA]at hcut;have d:=fun W (hW:BZ W a)=>S4 kb (Ab s.data.toList) W a hW (by rw[CR];omega);generalize Ab s.data.toList=lA at hcut d;generalize Gm kb.data.toList lA.data.toList=H at d;obtain⟨⟨i,j,l⟩,z3,b8⟩:=H;dsimp only at d;clear hc ay eA X ab aq
   go_enter Qn,Qo
   go_wp2_with fail
   generalize w.alloc (J #[.func (.func F) #[] #[G (I ⟨bl,0,S⟩)]] 182)=P at n u M hcut ⊢;refine hcut.mono ?_;rintro e w1 ⟨rfl,q,rfl⟩;clear hcut;have o:BL w (P.drewN q):=AH n q;have f:=d _ (m _ (o.mono v)).env;clear d M u n;generalize P.drewN q=W1 at o f ⊢
   go_wp2_with fail
   refine f.mono ?_;rintro e r ⟨rfl,N⟩;clear f;have t:BL w r:=Ad o N;have y:BL w (r.alloc (J #[O U i,O U j,O U l] 256)):=t.alloc t.size _;have ht:=(m _ (y.mono v)).env.text;go_wp2;go_ret;refine⟨y.mono v,?_⟩;rw[L.out];exact Qb (Qf ⟨by simp,rfl,rfl,rfl⟩)
  ·have a0:la.length+p.length+1=s.size:=by rw[<-AA,hl];simp;omega
   rw[hc]at hcut;dsimp only at hcut;have eA:(⟨la.toArray⟩:ByteArray)=Ab la:=rfl;have eB:(⟨p.toArray⟩:ByteArray)=Ab p:=rfl;rw[eA,eB]at hcut;have a1:(Ab la).data.toList=la:=by simp[Ab]
   have ar:(Ab p).data.toList=p:=by simp[Ab]
   have d:=fun W (hW:BZ W a)=>S4 kb (Ab la) W a hW (by rw[CR];omega);rw[a1,bz]at d;have C:=fun W=>Ky (Ab p) W (by rw[CR];unfold Qq;omega);rw[ar]at C;unfold Gm at d
   cases Y:EI k.word la with
   | none =>
    have L:Z (BP k s.data.toList=([],1,S)):=by show _=_;unfold BP;rw[if_neg X,hc];simp only[Y];rfl
    rw[Y]at d;dsimp only at d;clear hc ay eA eB a1 ar X ab C Y a0 hl aq;generalize Ab la=lA at hcut d;generalize Ab p=lB at hcut
    go_enter Qn,Qo
    go_wp2_with fail
    generalize w.alloc (J #[.func (.func F) #[] #[G (I ⟨bl,0,S⟩)]] 182)=P at n u M hcut ⊢;refine hcut.mono ?_;rintro e w1 ⟨rfl,q,rfl⟩;clear hcut;have o:BL w (P.drewN q):=AH n q;have f:=d _ (m _ (o.mono v)).env;clear d M u n;generalize P.drewN q=W1 at o f ⊢
    go_wp2_with fail
    refine f.mono ?_;rintro e r ⟨rfl,N⟩;clear f;have t:BL w r:=Ad o N;have y:BL w (r.alloc (J #[O U 0,O U 0,O U 0] 256)):=t.alloc t.size _;have ht:=(m _ (y.mono v)).env.text;go_wp2;go_ret;refine⟨y.mono v,?_⟩;rw[L.out];exact Qb (Qf ⟨by simp,rfl,rfl,rfl⟩)
   | some hd =>
    obtain⟨i,j,l,z3⟩:=hd;rw[Y]at d;dsimp only at d;have hD:BP k s.data.toList=if z3≠Ba p then ([],10,S) else GI k i j l (AP k (Av 10 p) 0 []):=by
     unfold BP;rw[if_neg X,hc];simp only[Y];rfl
    have L:Z (BP k s.data.toList=if z3≠Ba p then ([],10,S) else GI k i j l (AP k (Av 10 p) 0 [])):=hD;have bj:=Hn p;have a2:(Ab p).size<=20000:=by rw[CR];omega
    have a3:Z (AP k (Av 10 (Ab p).data.toList) 0 []=AP k (Av 10 p) 0 []):=by show _=_;rw[ar]
    generalize Ba p=c at C L bj;generalize AP k (Av 10 p) 0 []=R at L a3;clear hD hc ay eA eB a1 ar X ab Y a0 hl aq;generalize Ab la=lA at hcut d;generalize Ab p=lB at hcut C a2 a3;have bk:Z (∀Q,IV k a En F bl B w.heap.size Q (aa Q)):=T;have bm:Z (∀Q W',BL w W'->Q<=W'.heap.size->aa Q W' []):=hI;clear T hI
    go_enter Qn,Qo
    go_wp2_with fail
    generalize w.alloc (J #[.func (.func F) #[] #[G (I ⟨bl,0,S⟩)]] 182)=P at n u M hcut ⊢;refine hcut.mono ?_;rintro e w1 ⟨rfl,q,rfl⟩;clear hcut;have ag:BL P (P.drewN q):=AH (Below.refl _ _) q;have o:BL w (P.drewN q):=AH n q;have ac:=u.below ag;have f:=d _ (m _ (o.mono v)).env;clear d M u n ag;generalize P.drewN q=W1 at o f ac ⊢
    go_wp2_with fail
    refine f.mono ?_;rintro e r ⟨rfl,N⟩;clear f;have t:BL w r:=Ad o N;have ad:=ac.below N;have a4:BL r (r.alloc (J #[O U i,O U j,O U l] 256)):=Af _ _;have y:BL w (r.alloc (J #[O U i,O U j,O U l] 256)):=t.alloc t.size _;have ae:=ad.below a4;have ah:(r.alloc (J #[O U i,O U j,O U l] 256)).heap[r.heap.size]? =I (J #[O U i,O U j,O U l] 256 (0,0)):=Qr _ _;have af:=C (r.alloc (J #[O U i,O U j,O U l] 256));have a5:w.heap.size<=r.heap.size:=t.size;have bf:w.heap.size≠r.heap.size:=by have:=Qj ad;omega
    clear C ac ad a4
    go_wp2_with fail
    generalize bw:r.heap.size=sd at ah a5 bf ⊢;generalize r.alloc (J #[O U i,O U j,O U l] 256)=W3 at y af ae ah ⊢;clear bw t N o;refine af.mono ?_;rintro e z ⟨rfl,ax⟩;clear af;have au:BL w z:=Ad y ax;have av:=ae.below ax;have al:z.heap[sd]? =I (J #[O U i,O U j,O U l] 256 (0,0)):=(ax.block _ (Qj ah)).trans ah;have b2:IntKind.i64.wrap (c:Int)=(c:Int):=IntWalk.i64_in _ (by omega);have bg:sd<z.heap.size:=Qj al;clear ae ah y ax;by_cases a6:z3=(c:Int)
    ·have a7:Z (BP k s.data.toList=GI k i j l R):=by show _=_;rw[L.out,if_neg (by simpa using a6)]
     clear L;subst a6;have a8:BL z (z.alloc (J #[O U 0,O U 0,O U 0] 256)):=Af _ _;have ai:BL w (z.alloc (J #[O U 0,O U 0,O U 0] 256)):=au.alloc au.size _;have bn:Bb (z.alloc (J #[O U 0,O U 0,O U 0] 256)) z.heap.size 0 (0,0):=Qr _ _;have ba:=av.below a8;have a9:(z.alloc (J #[O U 0,O U 0,O U 0] 256)).heap[sd]? =I (J #[O U i,O U j,O U l] 256 (0,0)):=(a8.block _ (Qj al)).trans al;have bo:=Qj av;have aw:=eY (bk.out (z.heap.size+1)) w.heap.size z.heap.size lB _ (fun W' hW=>az W' ((ai.mono v).trans hW)) (bm.out (z.heap.size+1) _ ai (by simp)) (by simp) (Qd v ai.size) ba bn ⟨Nat.le_refl _,by omega⟩ ⟨by omega,by omega⟩ (by omega) a2;rw[a3.out]at aw
     go_wp2_with fail
     generalize b9:z.heap.size=g at aw bg bo ⊢;generalize z.alloc (J #[O U 0,O U 0,O U 0] 256)=W5 at ai a9 aw ⊢;refine aw.mono ?_;rintro e w6 ⟨bs,bt,bh⟩;have aj:=(ai.mono v).trans bs;have am:=(bt sd a5 (by omega) (by omega)).trans a9;rcases bh with⟨h0,rfl,bu,bv⟩|⟨h0,fb,rfl,c0,c1⟩
     ·have ak:Z _:=h0;have bp:Z (∃Q,aa Q w6 R.1):=⟨_,bu⟩;have x0:w6.cell? ⟨sd,0,S⟩=I (O U i):=by rw[Qs _ _ _ _ _ _ am];rfl
      have x1:w6.cell? ⟨sd,1,S⟩=I (O U j):=by rw[Qs _ _ _ _ _ _ am];rfl
      have x2:w6.cell? ⟨sd,2,S⟩=I (O U l):=by rw[Qs _ _ _ _ _ _ am];rfl
      obtain⟨y0,y1,y2,_⟩:=bv.cells;have bb:=m _ aj;by_cases bc:40<R.1.length
      ·have an:(40:Int)<(R.1.length:Int):=by omega
       have K:Z (BP k s.data.toList=([],8,S)):=by
        show _=_;rw[a7.out];unfold GI;rw[if_neg (by simpa using ak.out),if_pos bc]
       have b3:=bb.full;generalize R.1.length=LL at an y0;go_wp2;go_ret;refine⟨aj,?_⟩;rw[K.out];exact Qb (Qf ⟨by simp,rfl,rfl,rfl⟩)
      ·have an:¬(40:Int)<(R.1.length:Int):=by omega
       have K:Z (BP k s.data.toList=if i=(R.1.length:Int)/\j=(Ap (A6 k R.1)).1/\l=(Ap (A6 k R.1)).2 then (R.1,0,S) else ([],3,S)):=by
        show _=_;rw[a7.out];unfold GI;rw[if_neg (by simpa using ak.out),if_neg bc]
       have D:=S7.1 ((R.1.length:Int),(Ap (A6 k R.1)).1,(Ap (A6 k R.1)).2) (i,j,l);simp only[Mb]at D;have ao:=fun op a b w=>S7.2 op a b ((R.1.length:Int),(Ap (A6 k R.1)).1,(Ap (A6 k R.1)).2) (i,j,l) w;have br:decide ((((R.1.length:Int),(Ap (A6 k R.1)).1,(Ap (A6 k R.1)).2):Hd)=(i,j,l))=decide (i=(R.1.length:Int)/\j=(Ap (A6 k R.1)).1/\l=(Ap (A6 k R.1)).2):=by
        rw[decide_eq_decide];simp only[Prod.mk.injEq];exact⟨fun ⟨h1,h2,h3⟩=>⟨h1.symm,h2.symm,h3.symm⟩,fun ⟨h1,h2,h3⟩=>⟨h1.symm,h2.symm,h3.symm⟩⟩
       rw[br]at D;obtain⟨bq,ag⟩:∃bq,decide (i=(R.1.length:Int)/\j=(Ap (A6 k R.1)).1/\l=(Ap (A6 k R.1)).2)=bq:=⟨_,rfl⟩;have bd:Z _:=ag;rw[ag]at D;generalize bx:Ap (A6 k R.1)=E at D ao y1 y2;have b4:Z _:=bx;obtain⟨e1,e2⟩:=E;dsimp only at D ao y1 y2;obtain⟨LL,be⟩:∃LL,R.1.length=LL:=⟨_,rfl⟩;have b5:Z _:=be;rw[be]at D ao an y0;have b6:=bb.shape
       cases bq with
       | true =>
        have ap:Z (BP k s.data.toList=(R.1,0,S)):=by
         show _=_;rw[K.out,if_pos (of_decide_eq_true bd.out)]
        go_wp2;go_ret;refine⟨aj,?_⟩;rw[ap.out];exact Qf ⟨rfl,rfl,bp.out⟩
       | false =>
        have ap:Z (BP k s.data.toList=([],3,S)):=by
         show _=_;rw[K.out,if_neg (of_decide_eq_false bd.out)]
        go_wp2;go_ret;refine⟨aj,?_⟩;rw[ap.out];exact Qb (Qf ⟨by simp,rfl,rfl,rfl⟩)
     ·have ak:Z _:=h0;have C0:Z _:=c0;have C1:Z _:=c1;have K:Z (BP k s.data.toList=([],R.2.1,I R.2.2)):=by
       show _=_;rw[a7.out];unfold GI;rw[if_pos ak.out]
      go_wp2;go_ret;refine⟨aj,?_⟩;rw[K.out];exact Qb (Qb ⟨ak.out,rfl,R.2.2,rfl,fb,rfl,C0.out,C1.out⟩)
    ·have K:Z (BP k s.data.toList=([],10,S)):=by
      show _=_;rw[L.out,if_pos a6]
     have b7:=(m _ (au.mono v)).sum;go_wp2;go_ret;refine⟨au.mono v,?_⟩;rw[K.out];exact Qb (Qf ⟨by simp,rfl,rfl,rfl⟩)
end Go.Proofs.YtcllhobffhkafaaGreatDoor
