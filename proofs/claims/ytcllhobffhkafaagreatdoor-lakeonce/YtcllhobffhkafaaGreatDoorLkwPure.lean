/- By an AI agent. -/
import Derived.Test.YtcllhobffhkafaaGreatDoorMetaRd
set_option maxRecDepth 100000
set_option maxHeartbeats 16000000
open Go.Proofs.Tryz
open ByteArray renaming size_append->Qo,size->Qv,data_append->Qw
open Go renaming Calls->Qa,World->Qg,Value->Qj
open Go.Ending renaming returned->A
open Go.IntKind renaming i64->H
open Go.Lib renaming itoa->Qd,hasPrefix->Qm,trimPrefix->Qp
open Go.RowKit renaming Hid->Z
open Go.RowKit.Below renaming refl->Qh,size->Qi,drew->Qq,alloc->Qr
open Go.Value renaming pointer->U,slice->S,int->J,string->G,tuple->Qb,nilIface->Qc
open List renaming mem_append->Ql,mem_singleton->Qn,mem_filter->Qs,mem_map->Qt,append_inj'->Qu
open Nat renaming le_trans->Qe
open Option renaming some->O,none->I
open Or renaming inl->Qf,inr->Qk
namespace Go.Proofs.YtcllhobffhkafaaGreatDoor
open Go.RowKit Go.Extern.Stop Go.Stop Go.Extern Go.Sort Go.Shelf Go.Lib
section
variable {a : Nat → Addr} {B : Nat} {EM : Qg → Prop}
theorem sV {f:ByteArray} (d:DU f) {m:Int} (h:CF (f++Ab (Qd m)).data.toList=true):(Qd m).length<=11:=by
 have:=G5 h;obtain⟨g,b,c,-⟩:=d;have i:f.size=5:=by rw[<-AA,b,List.length_append,c];rfl
 rw[Qo,E9]at this;omega
theorem sW (m:Int) (W:Qg) (h:DJ W) (n:CF (AG m).data.toList=true) :
  Qa prog 64 #[G (AG m)] W fun e w'=>e=A (.bool true)/\BL W w':=by
 have f:=sV MM n;have b:=strings_CutPrefix (AG m) ⟨#[109,101,116,97,47]⟩ W;have d:(AG m).data.toList= [109,101,116,97,47]++Qd m:=by
  unfold AG;rw[show ((⟨#[109,101,116,97,47]⟩:ByteArray)++Ab (Qd m)).data.toList= [109,101,116,97,47]++(Ab (Qd m)).data.toList by simp,BQ]
 have g:Qm (AG m).data.toList [109,101,116,97,47]=true:=by rw[d];simp[Qm]
 have i:(⟨(Qp (AG m).data.toList [109,101,116,97,47]).toArray⟩:ByteArray)=Ab (Qd m):=by
  rw[d];simp[Qp,Qm,Ab]
 rw[show (⟨#[109,101,116,97,47]⟩:ByteArray).data.toList= [109,101,116,97,47] from rfl,g,i]at b;have c:=Lx (Ab (Qd m)) W h (by unfold maxLen;rw[E9];omega);have j:Dd (Ab (Qd m)).data.toList=(J H m,true):=by
  unfold Dd As;rw[BQ,if_pos f,IE];simp
 rw[j]at c;generalize Ab (Qd m)=q at *;generalize AG m=r at *;clear d g i j n f
 go_enter func64,ntmps64
 go_wp2_with fail
 refine b.mono ?_;rintro e o ⟨rfl,k⟩;rw[k];clear b k
 go_wp2_with fail
 refine c.mono ?_;rintro e p ⟨rfl,l⟩;clear c;go_wp2;go_ret;exact⟨rfl,l⟩
theorem sX (K:AJ a B EM A0) (HL:∀X,EM X->Bg X a) {W:Qg} {b:Nat} {vs:Qj} {l:Nat->Prop} {vi vf:Qj} {k:Lk} (hE:EM W) (h:An W b vs l k.st.head vi vf { k with ids:= [],now:=AC }) (hi:Ax k) :
  Qa prog 32 #[U (O ⟨b,0,I⟩)] W fun e w'=>e= .returned Qc/\Ac (fun j=>j=b) W w'/\∃vj vg,An w' b vs l k.st.head vj vg k/\∀j,vj.ownBlock=O j\/vg.ownBlock=O j->W.heap.size<=j:=by
 obtain⟨z,rfl⟩:=h.ptr K;obtain⟨hm,bn,bd,-⟩:=DO.1 hi.ids;obtain⟨m,af,ag,a4⟩:=hi.head;have n:Z (∀X,BL W X->EM X):=fun X hb=>K.below _ _ hE (hb.mono (K.size _ hE));have u:Z (∀X,BL W X->An X b (U (O z)) l k.st.head vi vf { k with ids:= [],now:=AC }):=fun X hb=>h.quiet K hb;have al:Z (∀X,BL W X->Qa prog 64 #[G (AG m)] X fun e w'=>e=A (.bool true)/\BL X w'):=fun X hb=>sW m X (HL X (n.out X hb)).s ag;have am:Z (∀X,BL W X->Qa prog 65 #[U (O z),G (AG m)] X fun e w'=>e=A (Qb #[G (Ab (B6 k.ids)),Qc])/\BL X w'):=fun X hb=>by
  have:=K.get X _ l k.st (AG m) (n.out X hb) (u.out X hb).st hi.good.keeps (by have:=G5 ag;omega);rw[a4]at this;exact this
 have an:Z (∀X,BL W X->Qa prog 66 #[G (Ab (B6 k.ids))] X fun e w'=> ∃v,e=A (Qb #[v,Qc])/\C4 w' v k.ids/\Iy X v/\BL X w'):=fun X hb=>by
  have:=sU (Ab (B6 k.ids)) X a (HL X (n.out X hb)).m (Vq hi.ids);rw[BQ,Oj hi.ids]at this;refine this.mono fun e w' ⟨v,ev,h1,h2,h3,h4,h5,h6⟩=>⟨v,?_,⟨h2,h5⟩,h6,h4⟩;rw[h1,AU.ok h3 rfl]
 have ao:Z (∀X v,C4 X v k.ids->Qa prog 68 #[v] X fun e w'=>e=A (J H k.now.1)/\w'=X):=fun X v q=>by
  have:=Oq v k.ids X q.1 (by omega);rw[List.getLastD_eq_getLast?,hi.last]at this;exact this
 have a9:=MQ hi.now.fine;have ap:Z (∀X,BL W X->Qa prog 47 #[U (O z),J H k.now.1] X fun e w'=> ∃vg,e=A (Qb #[A9 k.now vg,Qc])/\Ai w' vg k.now.2.2.2.2.2.2/\FS X vg/\BL X w'):=fun X hb=>UZ K HL X _ l k.st k.now.1 k.now (n.out X hb) (u.out X hb).st hi.good.keeps hi.now.has hi.now.fine (by omega);have aa:Z (b<W.heap.size/\(∀j,l j->j<W.heap.size)/\¬l b):=⟨h.blk.lt,(h.sizes K).2,h.off⟩;have aq:=u.out W (Qh _ _);obtain⟨c0,-,g,-⟩:=aq.blk.cells;rw[af]at g;generalize AG m=MB at *;generalize Ab (B6 k.ids)=TX at *;generalize ak:k.ids=ids at *;have a7:Z (k.ids=ids):=ak;have bk:Z (k.st.head=MB):=af;clear hE h hi hm bd af ag a4 a9 aq ak
 go_enter func32,ntmps32
 have ar:=al.out W (Qh _ _)
 go_wp2_with fail
 refine ar.mono ?_;rintro e w1 ⟨rfl,T⟩;clear ar al;have au:=Aa T c0;have av:=Aa T g;have i:BL w1 w1.drew:=(Qh _ _).drew;have ba:=Aa i au;have bb:=Aa i av;have ab:=Ad T i;have aw:=am.out w1.drew ab
 go_upto_region 3 with fail
 go_cut [3,4] from 14 to 25 (fun c3 c4 wx=>c3=G TX/\c4=Qc/\BL W wx)
 case first =>
  first
   | (go_region_with (go_at_call 65;(with_reducible refine aw.mono ?_);rintro e wZ ⟨rfl,bi⟩))
   | fail
  all_goals
   go_wp2;go_meet
   case rel=>exact ⟨rfl,rfl,(Ad ab bi)⟩
 case rest =>
 obtain⟨rfl,rfl,N⟩:=hcut;obtain⟨W2,be⟩:∃X,X=wc:=⟨_,rfl⟩;subst be;clear T c0 g au av ba bb i ab aw am;have ax:=an.out W2 N
 go_wp2_with fail
 refine ax.mono ?_;rintro e d ⟨vj,rfl,c,a5,a6⟩;have f:=Ad N a6;have L:Z (∀j,vj.ownBlock=O j->W.heap.size<=j):=fun j e=>Qe N.size (a5 j e);have ay:=u.out d f;obtain⟨k0,-⟩:=ay.blk.cells;have az:Z (∀X,BL d X->Qa prog 68 #[vj] X fun e w'=>e=A (J H k.now.1)/\w'=X):=fun X hb=>ao.out X vj (c.below hb);have ac:Z (∀X,BL d X->Qa prog 47 #[U (O z),J H k.now.1] X fun e w'=> ∃vg,e=A (Qb #[A9 k.now vg,Qc])/\Ai w' vg k.now.2.2.2.2.2.2/\(∀j,vg.ownBlock=O j->X.heap.size<=j)/\BL X w'):=fun X hb=>ap.out X (Ad f hb);have HJ:Z (C4 d vj ids):=c;obtain⟨C,D,bf⟩:=c.1.form;subst bf;clear ax an ap ao a6 a5 N c;generalize ids.length=E at *;unfold A9 at ac
 go_upto_region 9 with fail
 go_cut [4,6] from 38 to 48 (fun c4 c6 wx=> ∃xb Y,c6=U (O ⟨xb,0,I⟩)/\c4=Qc/\Al wx xb k.now Y/\Ai wx Y k.now.2.2.2.2.2.2/\(∀j,Y.ownBlock=O j->d.heap.size<=j)/\d.heap.size<=xb/\BL d wx)
 case first =>
  have bl:BL d d:=Qh _ _;have a8:b<d.heap.size:=BD k0;generalize k.now=TC at *;obtain⟨T1,T2,T3,T4,T5,T6,Tf⟩:=TC;clear ay f HJ L u n aa HL
  go_region_held3 (fun w'=>BL d w'/\w'.cell? ⟨b,0,I⟩=O (U (O z)))
   (first
    | (go_split_ands;with_reducible exact⟨Below.trans (by with_reducible assumption) (o.mono (Qi (by with_reducible assumption))),Aa o (by with_reducible assumption)⟩)
    | (go_split_ands;with_reducible exact⟨Lc (by with_reducible assumption) p p,Dj (by with_reducible assumption) (Nat.lt_of_lt_of_le a8 p)⟩)
    | (go_split_ands;with_reducible refine⟨Pe (by with_reducible assumption) ?_,Fu (by with_reducible assumption) ?_⟩;all_goals omega)
    | (go_split_ands;with_reducible refine⟨Qq (by with_reducible assumption),?_⟩;all_goals go_keep)
    | (go_split_ands;with_reducible refine⟨Qr (by with_reducible assumption) (Qi (by with_reducible assumption)) _,?_⟩;all_goals go_keep)
    | (go_split_ands;with_reducible refine⟨Qq (Qr (by with_reducible assumption) (Qi (by with_reducible assumption)) _),?_⟩;all_goals go_keep)
    | (go_split_ands;with_reducible exact⟨by assumption,by assumption⟩))
   (first
    | (go_at_call 68;with_reducible refine(az.out _ (by go_split_ands;with_reducible assumption)).mono ?_;rintro e wX ⟨rfl,rfl⟩)
    | (go_at_call 47;with_reducible refine(ac.out _ (by go_split_ands;with_reducible assumption)).mono ?_;rintro e wX ⟨Y,rfl,aj,bj,o⟩;have p:d.heap.size<=wX.heap.size:=(by go_split_ands;exact Qe (Qi (by with_reducible assumption)) o.size);have a0:∀j,Y.ownBlock=O j->d.heap.size<=j:=(fun j c=>Qe (by go_split_ands;exact Qi (by with_reducible assumption)) (bj j c));obtain⟨t,g,rfl⟩:=aj.form;(first | (with_reducible have q:=Al.below (Ld _) o) | (with_reducible have q:=Al.below (JZ _) o) | (with_reducible have q:=Al.below q o) | skip);(first | (obtain⟨y0,y1,y2,y3,y4,y5,y6,yf⟩:=q.zeros) | skip)))
  all_goals go_split_ands
  all_goals go_wp2
  all_goals go_meet
  all_goals first
   | ((with_reducible refine⟨_,_,rfl,rfl,Pf _ _ _ _ _ _ _ _ _,Ai.below aj (Af _ _),a0,?_,by assumption⟩);exact p)
   | ((with_reducible refine⟨_,_,rfl,rfl,Pg q _ _ _ _ _ _ _ _,Ph q _ _ _ _ _ _ _ aj,a0,?_,by assumption⟩);exact Nat.le_refl _)
 case rest =>
 obtain⟨xb,Y,rfl,rfl,ah,Q,R,bg,ai⟩:=hcut;obtain⟨t,g,rfl⟩:=Q.form;generalize k.now.2.2.2.2.2.2.length=F at ah Q R;have ad:=Ad f ai;have r:=u.out wc ad;have ae:=HJ.out.below ai;have HP:Z (Ac (fun j=>j=b) W (EC (wc.setCell ⟨b,3,I⟩ (S C E D)) b k.now (S t F g)).drew/\∃vj vg,An (EC (wc.setCell ⟨b,3,I⟩ (S C E D)) b k.now (S t F g)).drew b (U (O z)) l k.st.head vj vg k/\∀j,vj.ownBlock=O j\/vg.ownBlock=O j->W.heap.size<=j):=by
  have y:C5 (EC (wc.setCell ⟨b,3,I⟩ (S C E D)) b k.now (S t F g)) b (U (O z)) k.spec k.st.head (S C E D) k.now (S t F g):=C5.setNow (r.blk.setIds _);have a1:Ac (fun j=>j=b) wc (EC (wc.setCell ⟨b,3,I⟩ (S C E D)) b k.now (S t F g)):=((Ac.refl (fun j=>j=b) wc).setCell (Qf rfl) _).trans (TW _ b k.now _) (fun _ h _=>h);generalize EC (wc.setCell ⟨b,3,I⟩ (S C E D)) b k.now (S t F g)=W8 at y a1 ⊢;have i:BL W8 W8.drew:=(Qh _ _).drew;have M:Ac (fun j=>j=b) wc W8.drew:=a1.trans (Ac.of_below (P:=fun _=>False) i) (fun _ h _=>h.elim);have bc:=K.keep _ _ _ _ _ _ r.st M (fun j c e=>r.off (e▸c));have hk:=aa.out;have a2:∀j,(S C E D).ownBlock=O j->j≠b/\¬l j:=fun j c=>by
   have:=L.out j c;exact⟨fun e=>by omega,fun e=>by have:=hk.2.1 j e;omega⟩
  have a3:∀j,(S t F g).ownBlock=O j->j≠b/\¬l j:=fun j c=>by
   have:=R j c;have:=f.size;exact⟨fun e=>by omega,fun e=>by have:=hk.2.1 j e;omega⟩
  refine⟨(Ac.of_below ad).trans M (fun _ h _=>h),_,_,⟨y.keep (i.block b y.lt),bc,?_,JP Q (fun _ j c=>(a3 j c).1) M,hk.2.2,fun _ j c=>a2 j c,fun _ j c=>a3 j c⟩,fun j c=>c.elim (L.out j) (fun e=>Qe f.size (R j e))⟩;rw[a7.out];exact⟨KD ae.1 (fun _ j c=>(a2 j c).1) M,ae.2⟩
 unfold EC at HP;have bm:¬xb=b:=by have:=aa.out.1;have:=f.size;omega
 obtain⟨d0,d1,d2,d3,d4,d5,d6,d7,d8,d9,bh,dz⟩:=r.blk.cells;generalize k.now=TC at *;obtain⟨n1,n2,n3,n4,n5,n6,bo⟩:=TC;obtain⟨x0,x1,x2,x3,x4,x5,x6⟩:=ah.cells;unfold AC at d4 d5 d6 d7 d8 d9;dsimp only at x0 x1 x2 x3 x4 x5 x6 d3 d4 d5 d6 d7 d8 d9 bh HP;clear ah r Q ae ad ai R f u HJ L n ac az bg
 go_upto_region 12 with fail
 go_region
 go_wp2;go_ret;exact⟨rfl,HP.out⟩
end
structure Lw (N:List ByteArray) (s s':St):Prop where
 good:B3 s'
 old:∀n∈N,∀t,AK s n t->AK s' n t
 head:s'.head=s.head
theorem Lw.refl {N:List ByteArray} {s:St} (h:B3 s):Lw N s s:=⟨h,fun _ _ _ h=>h,rfl⟩
theorem Lw.trans {N:List ByteArray} {s t u:St} (h:Lw N s t) (k:Lw N t u):Lw N s u:=⟨k.good,fun n hn x hx=>k.old n hn x (h.old n hn x hx),k.head.trans h.head⟩
theorem sY {s:St} (h:B3 s) {N:List ByteArray} {n:ByteArray} (c:n∉N):Lw N s (Ep s n):=by
 refine⟨⟨dH h.keeps n,?_,?_⟩,fun m hm t ht=>?_,?_⟩
 ·intro o b;unfold Ep at b;split at b
  ·exact h.slb o b
  ·exact h.slb o (Qs.1 b).1
 ·intro o b;unfold Ep at b;split at b
  ·exact h.aged o b
  ·exact h.aged o (Qs.1 b).1
 ·unfold Ep;split
  ·exact ht
  ·unfold AK AV at *;dsimp only;rw[Kx h.keeps.rise,if_neg (show ¬m=n from fun e=>c (e▸hm))];exact ht
 ·unfold Ep;split<;>rfl
theorem Pq {s:St} {d:Int} {x y:Sn} (h:D6 s d x) (f:D6 s d y):x=y:=by
 have e:=h.has.symm.trans f.has;injection e with e;have g:BC x=BC y:=by
  have:=congrArg (fun b:ByteArray=>b.data.toList) e;simpa [BQ] using this
 have c:=N5 h.fine;rw[g,N5 f.fine]at c;exact(Prod.mk.inj c).1.symm
theorem D6.lw {N:List ByteArray} {s d:St} {g:Int} {x:Sn} (h:D6 s g x) (i:Lw N s d) (j:∀n∈B9 x,n∈N):D6 d g x:=by
 refine⟨i.old _ (j _ (by rw[<-h.id];exact List.mem_cons_self)) _ h.has,h.fine,h.id,fun f hf=>?_⟩;have b:=h.files f hf;have c:=MH b;have k:=i.old _ (j f.1 (List.mem_cons_of_mem _ (Qt.2 ⟨f,hf,rfl⟩))) _ c;rw[OU (k.trans c.symm)];exact b
theorem Ax.lw {N:List ByteArray} {k:Lk} (h:Ax k) {i:St} (b:Lw N k.st i) (c:∀id∈k.ids,∃x,D6 k.st id x/\∀n∈B9 x,n∈N) (o:k.st.head∈N):Ax { k with st:=i } :=by
 obtain⟨m,g,j,l⟩:=h.head;refine⟨b.good,h.ids,⟨m,b.head.trans g,j,b.old _ (g▸o) _ l⟩,fun id hid=>?_,?_,h.last⟩
 ·obtain⟨x,d,f⟩:=c id hid;exact⟨x,d.lw b f⟩
 ·obtain⟨x,d,f⟩:=c k.now.1 (List.mem_of_getLast? h.last);obtain rfl:=Pq d h.now;exact h.now.lw b f
def Pr (s:St) (spec:ByteArray):Prop:=(A8 spec.data.toList).1=0/\(s.head=⟨#[]⟩->Rm 2 (Br s))
def Vy (s:St) (k:Lk):Prop:=Ax k/\(∀k0,k0.st=s->Ax k0->k.ids=k0.ids/\k.now=k0.now/\k.st=Br s)/\(s.head=⟨#[]⟩->k.ids= [Ag (Br s)]/\k.now=Dv (Ag (Br s))/\(∃m,k.st.head=AG m/\Ag (Br s)<m)/\∀n,Rm (n+2) (Br s)->Rm n k.st)
def Jw (a:Nat->Addr) (W:Qg) (vs:Qj) (SP:Nat->Prop) (s:St) (spec:ByteArray) (e:Ending) (w':Qg):Prop :=
 ∃n vk,e=A (Qb #[vk,Ae a n])/\((n≠0/\vk=U I/\¬Pr s spec/\Ac SP W w')\/(n=0/\∃SP' kb vi vf k,vk=U (O ⟨kb,0,I⟩)/\Ac SP W w'/\(∀j,SP' j->SP j\/W.heap.size<=j)/\W.heap.size<=kb/\(An w' kb vs SP' k.st.head vi vf k/\∀j,vi.ownBlock=O j\/vf.ownBlock=O j->W.heap.size<=j)/\k.spec=spec/\(A8 spec.data.toList).1=0/\Vy s k))
theorem Ps {k:Lk} (h:Ax k):k.st.head≠⟨#[]⟩:=by
 obtain⟨m,e,-⟩:=h.head;rw[e];intro b;have:=congrArg Qv b;unfold AG at this;rw[Qo,show (⟨#[109,101,116,97,47]⟩:ByteArray).size=5 from rfl,show (⟨#[]⟩:ByteArray).size=0 from rfl]at this;omega
theorem Ax.on {k:Lk} (h:Ax k):Ax { k with st:=Br k.st } :=h.up (MG h.good (LV h.good.keeps) rfl rfl)
theorem Pt {m n:Int} (h:AG m=AG n):m=n:=by
 have e:(AG m).data.toList=(AG n).data.toList:=by rw[h]
 unfold AG at e;simp only[Qw,Array.toList_append,BQ,List.append_cancel_left_eq]at e;have:=IE m;rw[e,IE]at this;exact(Option.some.inj this).symm
theorem sZ {k c:Lk} (h:Ax k) (f:Ax c) (e:k.st=c.st):k.ids=c.ids/\k.now=c.now:=by
 obtain⟨m,q,u,s⟩:=h.head;obtain⟨n,t,v,o⟩:=f.head;have i:=Pt (q.symm.trans ((congrArg St.head e).trans t));subst i;rw[<-e]at o;have g:=s.symm.trans o;injection g with g;have p:B6 k.ids=B6 c.ids:=by
  have:=congrArg (fun b:ByteArray=>b.data.toList) g;simpa [BQ] using this
 have r:=Oj h.ids;rw[p,Oj f.ids]at r;have d:k.ids=c.ids:=(Prod.mk.inj r).1.symm;refine⟨d,?_⟩;have j:=h.last;rw[d,f.last]at j;have l:=f.now;rw[Option.some.inj j,<-e]at l;exact Pq h.now l
theorem tA {n:Int} (h:1<=n/\n<=1073741824):(Am (Dv n)).1=0/\(AD [n]).1=0:=by
 have b:CI n=true:=by simp[CI,h.1,h.2]
 refine⟨?_,DO.2 ⟨by simp,by simp,by simpa using b,by simp⟩⟩;have c:Em (Dv n)=true:=IQ.2 (by show ((1<=n/\n<=1073741824)/\((0:Int)<=0/\0<n))/\(((0:Int)<=0/\(0:Int)<=1073741824)/\((0:Int)<=0/\(0:Int)<=100000))/\(0:Int)<=0/\(0:Int)<=1073741824;omega);unfold Am;rw[c,if_neg (by simp),if_neg (by show ¬Cp [115,116,97,114,116]=false;decide),if_neg (by show ¬(BF []).1≠0;decide)];rfl
section
variable {a : Nat → Addr} {B : Nat} {EM : Qg → Prop}
theorem Pu (K:AJ a B EM A0) (HL:∀X,EM X->Bg X a) {W:Qg} {vs:Qj} {d:Nat->Prop} {s:St} (hE:EM W) (Q:A0 W vs d s) (hg:B3 s) (hB:∀j,d j->B<=j) (b:ByteArray) (an:b.size<=1000) (hH:(s.head=⟨#[]⟩/\Ag s<=1073741824)\/∃k0:Lk,k0.st=s/\Ax k0) :
  Qa prog 8 #[vs,G b] W (Jw a W vs d s b):=by
 obtain⟨g,rfl⟩:=K.ptr _ _ _ _ Q;have T:Z (B<=W.heap.size/\∀j,d j->j<W.heap.size):=⟨K.size _ hE,fun j c=>K.lt _ _ _ _ j Q c⟩;have p:=jL b W a (HL W hE).f.data.env an;have ao:Z (∀X,BL W X->Qa prog 30 #[U (O g)] X fun e w'=>e=A (Qb #[])/\Dh A0 X (U (O g)) d (Br s) w'):=fun X hb=>K.on X _ d s (K.below _ _ hE (hb.mono T.out.1)) (K.keep _ _ _ _ (fun _=>False) _ Q (Ac.of_below hb) (fun _ _ h=>h)) hg.keeps;have ap:Z (∀X,Ac d W X->EM X):=fun X hb=>K.below _ _ hE (hb.below T.out.1 hB);have aq:Z (∀X o,Ac d W X->A0 X (U (O g)) o (Br s)->Qa prog 31 #[U (O g)] X fun e w'=>e=A (G s.head)/\BL X w'):=fun X o hb h=>K.head X _ o (Br s) (ap.out X hb) h (LV hg.keeps);have a0:Z (B3 (Br s)):=ME hg (LV hg.keeps) rfl;have HH:Z ((s.head=⟨#[]⟩/\Ag s<=1073741824)\/∃k0:Lk,k0.st=s/\Ax k0):=hH;have a1:Z (∀j,d j->B<=j):=hB;by_cases E:(A8 b.data.toList).1=0
 case neg =>
  have a2:Z (¬Pr s b):=fun h=>E h.1;obtain⟨n,hn⟩:∃n,(A8 b.data.toList).1=n+1:=⟨(A8 b.data.toList).1-1,by omega⟩;rw[hn]at p;simp only[Ae]at p;clear hE Q hg hB an hH E hn
  go_enter func8,ntmps8
  go_wp2_with fail
  refine p.mono ?_;rintro e w1 ⟨rfl,u⟩;have a3:Z (Ac d W w1):=Ac.of_below u;clear p u;go_wp2;go_ret2;exact⟨n+1,_,rfl,Qf ⟨by omega,rfl,a2.out,a3.out⟩⟩
 case pos =>
 have ar:Z ((A8 b.data.toList).1=0):=E;rw[E]at p;simp only[Ae]at p;clear hE Q hg hB an hH E
 go_enter func8,ntmps8
 go_wp2_with fail
 refine p.mono ?_;rintro e w1 ⟨rfl,u⟩;have au:=ao.out w1 u;clear p ao
 go_wp2_with fail
 refine au.mono ?_;rintro e w2 ⟨rfl,o,ak,ac,al⟩;have ad:Ac d W w2:=(Ac.of_below u).trans ac (fun _ h _=>h);have F:Z (∀j,o j->d j\/W.heap.size<=j):=fun j c=>(al j c).imp_right (Qe u.size);have av:=aq.out w2 o ad ak;clear au ac al u aq
 go_wp2_with fail
 refine av.mono ?_;rintro e r ⟨rfl,am⟩;clear av;have ae:Ac d W r:=ad.trans (Ac.of_below (P:=fun _=>False) am) (fun _ h _=>h.elim);have af:A0 r (U (O g)) o (Br s):=K.keep _ _ _ _ (fun _=>False) _ ak (Ac.of_below am) (fun _ _ h=>h);clear am ak ad
 go_upto_region 8 with fail
 have Y:BL r (r.alloc (.cells #[U (O g),G b,G s.head,S I 0 0,J H 0,J H 0,J H 0,J H 0,J H 0,G ⟨#[]⟩,S I 0 0] 66)):=Af _ _;have L:C5 (r.alloc (.cells #[U (O g),G b,G s.head,S I 0 0,J H 0,J H 0,J H 0,J H 0,J H 0,G ⟨#[]⟩,S I 0 0] 66)) r.heap.size (U (O g)) b s.head (S I 0 0) AC (S I 0 0):=heap_alloc_new _ _;have q:Z (W.heap.size<=r.heap.size/\∀j,o j->j<r.heap.size):=⟨ae.size,fun j c=>K.lt _ _ _ _ j af c⟩;generalize r.alloc (.cells #[U (O g),G b,G s.head,S I 0 0,J H 0,J H 0,J H 0,J H 0,J H 0,G ⟨#[]⟩,S I 0 0] 66)=C at Y L ⊢;have ag:Ac d W C:=ae.trans (Ac.of_below (P:=fun _=>False) Y) (fun _ h _=>h.elim);have M:An C r.heap.size (U (O g)) o s.head (S I 0 0) (S I 0 0) ⟨Br s,b, [],AC⟩:=⟨L,K.keep _ _ _ _ (fun _=>False) _ af (Ac.of_below Y) (fun _ _ h=>h),⟨Qf ⟨I,0,rfl,rfl⟩,KG⟩,Qf ⟨I,0,rfl,fun _=>rfl,rfl⟩,fun e=>by have:=q.out.2 _ e;omega,DS.nil _ _ _,DS.nil _ _ _⟩;have aa:EM C:=ap.out C ag;have z:Z (Ac d W C):=ag;have aw:Z (B<=r.heap.size/\∀j,o j->B<=j):=⟨Qe T.out.1 q.out.1,fun j c=>(F.out j c).elim (a1.out j) (fun e=>Qe T.out.1 e)⟩;generalize r.heap.size=D at L M q aw ⊢;obtain⟨-,-,c2,-⟩:=L.cells;clear Y L af ae ag;by_cases y:s.head=⟨#[]⟩
 case pos =>
  have hn:Ag s<=1073741824:=by
   rcases HH.out with h | ⟨k0,e,h⟩
   ·exact h.2
   ·exact absurd (e▸y) (Ps h)
  have ax:=Id s;obtain⟨ab,ah⟩:=tA (n:=Ag (Br s)) ⟨ax.1,hn⟩;have ay:=sR K HL aa (k:=⟨Br s,b, [],AC⟩) M a0.out aw.out (by show s.head.size<=1000;rw[y];decide) ab ah;have t:Z (∀e w',(∃vj,(∀j,vj.ownBlock=O j->C.heap.size<=j)/\Dk a C D (U (O g)) o (S I 0 0) (S I 0 0) ⟨Br s,b, [],AC⟩ vj (S I 0 0) [Ag (Br s)] (Dv (Ag (Br s))) (Ge ⟨Br s,b, [],AC⟩ (Dv (Ag (Br s)))) (Fv ⟨Br s,b, [],AC⟩ (Dv (Ag (Br s)))) e w')->∃n,e=A (Ae a n)/\((n≠0/\Jw a W (U (O g)) d s b (A (Qb #[U I,Ae a n])) w')\/(n=0/\Jw a W (U (O g)) d s b (A (Qb #[U (O ⟨D,0,I⟩),Qc])) w'))):=fun e w' ⟨vj,hnj,n,SY,h1,h2,h3,h4⟩=>by
   refine⟨n,h1,?_⟩;rcases h4 with⟨N,a6,-⟩|⟨N,s',m,g1,g2,g3,g4,g5,⟨g6,g7,g8⟩,g9⟩
   ·refine Qf ⟨N,n,_,rfl,Qf ⟨N,rfl,fun h=>a6 ⟨rfl,h.2 y⟩,z.out.trans h2 (fun j c hjl=>?_)⟩⟩;rcases c with c | c
    ·exact(F.out j c).elim id (fun e=>absurd hjl (by omega))
    ·exact absurd hjl (by have:=q.out.1;omega)
   ·refine Qk ⟨N,0,_,rfl,Qk ⟨rfl,SY,D,vj,S I 0 0,⟨s',b, [Ag (Br s)],Dv (Ag (Br s))⟩,rfl,z.out.trans h2 (fun j c hjl=>?_),fun j c=>(h3 j c).elim (F.out j) (fun e=>Qk (Qe z.out.size e)),q.out.1,⟨?_,fun j c=>c.elim (fun e=>Qe z.out.size (hnj j e)) (fun e=>by cases e)⟩,rfl,ar.out,?_⟩⟩
    ·rcases c with c | c
     ·exact(F.out j c).elim id (fun e=>absurd hjl (by omega))
     ·exact absurd hjl (by have:=q.out.1;omega)
    ·show An _ _ _ _ s'.head _ _ _;rw[g3];exact g9
    ·refine⟨⟨g1,ah,⟨m,g3,g4,g5⟩,fun id hid=>?_,⟨g6,ab,rfl,fun f hf=>by cases hf⟩,rfl⟩,fun k0 e h=>absurd (e▸y) (Ps h),fun _=>⟨rfl,rfl,⟨m,g3,g7⟩,g8 rfl⟩⟩;rw[Qn]at hid;subst hid;exact⟨_,g6,ab,rfl,fun f hf=>by cases hf⟩
  rw[y]at c2;clear aa M y hn ax ab ah
  go_wp2_with fail
  refine ay.mono ?_;rintro e w5 v;obtain⟨n,rfl,a5⟩:=t.out e w5 v;clear ay v t;rcases a5 with⟨N,v⟩|⟨N,v⟩
  ·obtain⟨i,rfl⟩:∃i,n=i+1:=⟨n-1,by omega⟩;have R:Z (Jw a W (U (O g)) d s b (A (Qb #[U I,Ae a (i+1)])) w5):=v;simp only[Ae]at R ⊢;clear v N;go_wp2;go_ret2;exact R.out
  ·subst N;have R:Z (Jw a W (U (O g)) d s b (A (Qb #[U (O ⟨D,0,I⟩),Qc])) w5):=v;simp only[Ae];clear v;go_wp2;go_ret2;exact R.out
 case neg =>
 obtain⟨k0,ai,aj⟩:∃k0:Lk,k0.st=s/\Ax k0:=HH.out.elim (fun h=>absurd h.1 y) id;have hi:Ax ⟨Br s,b,k0.ids,k0.now⟩:=by
  subst ai;have h:=aj.on;exact⟨h.good,h.ids,h.head,h.snaps,h.now,h.last⟩
 have az:=sX K HL aa (k:=⟨Br s,b,k0.ids,k0.now⟩) M hi;have t:Z (∀w',(Ac (fun j=>j=D) C w'/\∃vj vg,An w' D (U (O g)) o (Br s).head vj vg ⟨Br s,b,k0.ids,k0.now⟩/\∀j,vj.ownBlock=O j\/vg.ownBlock=O j->C.heap.size<=j)->Jw a W (U (O g)) d s b (A (Qb #[U (O ⟨D,0,I⟩),Qc])) w'):=fun w' ⟨h1,vj,vg,h2,hnw⟩=>by
  refine⟨0,_,rfl,Qk ⟨rfl,o,D,vj,vg,⟨Br s,b,k0.ids,k0.now⟩,rfl,z.out.trans h1 (fun j c hjl=>absurd hjl (by have:=q.out.1;omega)),F.out,q.out.1,⟨h2,fun j c=>Qe z.out.size (hnw j c)⟩,rfl,ar.out,hi,fun k1 e h=>?_,fun e=>absurd e y⟩⟩;obtain⟨e1,e2⟩:=sZ aj h (ai.trans e.symm);exact⟨e1,e2,rfl⟩
 have a7:(s.head.toList == [])=false:=BH (l:= []) (fun e=>y (JC e));clear aa M y hi aj ai
 go_wp2_with fail
 refine az.mono ?_;rintro e w5 ⟨rfl,v⟩;have R:=t.out w5 v;have a4:Z (Jw a W (U (O g)) d s b (A (Qb #[U (O ⟨D,0,I⟩),Qc])) w5):=R;clear az v t R;go_wp2;go_ret2;exact a4.out
end
theorem MU {ds:List Dr} {d:Dr} {ps:List ByteArray} {p:ByteArray} {c:List Fl} (h:Fils (ds++ [d]) (ps++ [p]) c):∃gs,c=gs++ [(Cs p d).1]/\Fils ds ps gs/\(Cs p d).2=0:=by
 generalize b:ds++ [d]=D at h;generalize i:ps++ [p]=P at h
 cases h with
 | nil=>simp at b
 | step d' p' h1 h2 =>
  obtain⟨rfl,f⟩:=Qu b rfl;obtain⟨rfl,g⟩:=Qu i rfl;cases f
  cases g
  exact⟨_,rfl,h1,h2⟩
theorem Lf {b:List Fl} (h:Fils [] [] b):b= []:=by
 generalize c:([]:List Dr)=D at h;generalize f:([]:List ByteArray)=P at h
 cases h with
 | nil=>rfl
 | step d p h1 h2=>simp at c
theorem Lg {p:ByteArray} {d:Dr} (h:(Cs p d).2=0):(Cs p d).1.1=p/\(Cs p d).1.2.1=d.2.1:=by
 obtain⟨g,m,-,-,b,-⟩:=Le h;have e:(Cs p d).1=_:=b;rw[e];exact⟨rfl,rfl⟩
theorem tB {s n:St} {ds:List Dr} {ps:List ByteArray} (u:Puts s ds n ps) (v:B3 s):(∀d∈ds,Bp d.1)->∀ {fs:List Fl},Fils ds ps fs->∀f∈fs,∃d∈ds,(Cs f.1 d).2=0/\(Cs f.1 d).1=f/\AK n f.1 d.2.2:=by
 induction u with
 | nil =>
  intro _ fs j f b;rw[Lf j]at b;cases b
 | @step ds t ps d h1 h2 ih =>
  intro i fs j f b;obtain⟨y,rfl,l,m⟩:=MU j;have c:∀d∈ds,Bp d.1:=fun x hx=>i x (Ql.2 (Qf hx));have g:=(h1.gw v c).good;have k:Bp (d.1++Ab (Qd (Ag t))):=Jr _ _ (i d (by simp));rcases Ql.1 b with b | b
  ·obtain⟨e,o,p,q,r⟩:=ih c l f b;exact⟨e,Ql.2 (Qf o),p,q,(Jp g d.2.2 k).old _ _ r⟩
  ·rw[Qn]at b;subst b;rw[(Lg m).1];exact⟨d,by simp,m,rfl,(JY g h2).1⟩
theorem tC {s:St} {f:Fl} {d:Dr} {n:Int} (g:(Cs f.1 d).2=0) (b:(Cs f.1 d).1=f) (l:AK s f.1 d.2.2) (m:At (Bn f n)=0):Aj s.obs (Bn f n)=(0,d.2.2):=by
 have i:Bx f.1 d.2.1 d.2.2.data.toList n=(Bn f n,0):=by
  have:=rY (k:=n) g (by rw[show (Bx f.1 d.2.1 d.2.2.data.toList 1).1=f from b];exact m);rw[this,show (Bx f.1 d.2.1 d.2.2.data.toList 1).1=f from b]
 have c:f.2.1=d.2.1:=by
  have:=(Lg g).2;rw[b]at this;exact this
 have j:AV s.obs f.1=(d.2.2,0):=l;show Aj s.obs (f.1,f.2.1,f.2.2.1,f.2.2.2.1,f.2.2.2.2.1,n)=_;unfold Aj;dsimp only;rw[j,c];dsimp only;rw[i];unfold Bn;rw[c];simp
structure Ke (k k':Lk):Prop where
 lki:Ax k'
 old:∀x t,AK k.st x t->AK k'.st x t
 ids:k'.ids=k.ids++ [k'.now.1]
 head:∃m,k'.st.head=AG m/\k'.now.1<m
 new:∀m,k.st.head=AG m->m<k'.now.1
 spec:k'.spec=k.spec
theorem Fw.all {k i:Lk} {ds:List Dr} {v:List ByteArray} {Y:Int} (h:Fw k i ds v Y) (hi:Ax k) (y:∀d∈ds,Bp d.1):Ke k i:=by
 obtain⟨s1,ps,fs,F,hf,ht,hc,r,l,K,L,hg,s,⟨m,u,M,N,P⟩,Q,-⟩:=h;have q:=F.gw hi.good y;have j:∀x t,AK k.st x t->AK i.st x t:=fun x t C=>s x t (q.old x t C);obtain⟨aa,-,-,R,T⟩:=JM hc;rw[T]at r;have b:i.now.1=Ag s1:=by rw[r];rfl
 have o:(Am i.now).1=0:=by rw[r];exact R
 have p:D6 i.st i.now.1 i.now:=by
  refine⟨by rw[b];exact Q,o,rfl,fun f hff=>?_⟩;have D:=((Jf o).2.1 f hff).1;rw[r]at hff;rcases Of.1 (show f∈CH (k.now,fs,v) k.now from hff) with⟨c,-⟩ | c
  ·have E:=hi.now.files f c;rw[Jq j E];exact E
  ·obtain⟨g,W,rfl⟩:=Qt.1 c;obtain⟨d,-,z,X,B⟩:=tB F hi.good y hf g W;rw[tC z X (s _ _ B) D]
 refine⟨⟨hg,K,⟨m,u,M,N⟩,fun id hid'=>?_,p,by rw[l,b];simp⟩,j,by rw[b];exact l,⟨m,u,by rw[b];exact P⟩,fun n hn'=>?_,L⟩
 ·rw[l]at hid';rcases Ql.1 hid' with c | c
  ·obtain⟨x,C⟩:=hi.snaps id c;exact⟨x,C.up j⟩
  ·rw[Qn]at c;rw[c,<-b];exact⟨_,p⟩
 ·obtain⟨m0,z,X,B⟩:=hi.head;obtain rfl:m0=n:=Pt (z.symm.trans hn');rw[b];exact KZ q.good.keeps MM (q.old _ _ B)
end Go.Proofs.YtcllhobffhkafaaGreatDoor
