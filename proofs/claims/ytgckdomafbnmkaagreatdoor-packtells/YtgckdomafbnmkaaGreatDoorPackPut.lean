/- By an AI agent. -/
import Derived.Test.YtgckdomafbnmkaaGreatDoorListFnd
import Derived.Lib.AppendZerosOnto
import Derived.Laws.EntriesVeiled
set_option maxRecDepth 100000
set_option maxHeartbeats 16000000
namespace Go.Proofs.YtgckdomafbnmkaaGreatDoor
open Go.RowKit Go.Extern.Stop Go.Stop Go.Extern Go.Sort Go.Shelf Go.Lib
structure CtOk (n:Nat) (c:Ct) (qs:List Int):Prop where
 rows:c.1.length<=40*n
 keys:c.2.length<=40*n
 nums:qs.length<=n
 small:∀p∈c.1,-1073741824<=p.1.2.1/\p.1.2.1<=1073741824
theorem CtOk.start:CtOk 0 ([], []) []:=⟨by simp,by simp,by simp,fun p hp=>by cases hp⟩
theorem CtOk.step {n:Nat} {c:Ct} {k:List Int} (h:CtOk n c k) {obs:List Ob} {x:Fl} (q:(fileR obs x).1=0):CtOk (n+1) (takeC x (fileR obs x).2 c) (takeQ x k):=by
 obtain⟨g,m,C,d,u,v,y,i,j⟩:=za0h q;generalize (fileR obs x).2=t at *;have z:=h.rows;have A:=h.keys;have B:=h.nums;unfold takeQ;by_cases f:x.2.1.data.toList= [45]
 ·obtain rfl:=d.1 f;rw[zz6 f,if_neg (by simpa using f)];have l:(goneO t.data.toList).1.length<=40:=i;exact⟨by dsimp only;omega,by dsimp only;rw[List.length_append,List.length_map];omega,by omega,h.small⟩
 ·obtain rfl:g=false:=by
   cases g with
   | false=>rfl
   | true=>exact absurd (d.2 rfl) f
  rw[zr2 f,if_pos f];have s:(dataO t.data.toList).1.length=(keysF false t.data.toList).1.length:=by
   show _=(keysR (dataO t.data.toList).1).length;rw[zj3]
  refine⟨by dsimp only;rw[List.length_append,List.length_map];omega,by dsimp only;omega,by rw[List.length_cons];omega,fun p b=>?_⟩;rw[List.mem_append]at b;rcases b with b | b
  ·exact h.small p b
  ·obtain⟨r,o,rfl⟩:=List.mem_map.1 b;exact j r.2.1 (by simp only[keysF,Bool.false_eq_true,if_false];exact List.mem_map.2 ⟨r,o,rfl⟩)
theorem FlsAt.butC {W i:World} {base l m:Nat} {c:Ct} {t:List Int} {v:Value} {n:List Fl} (h:FlsAt W v n) (y:But (OfC W base l m) W i) (z:CtAt W base l m c t) (A:base=W.heap.size):FlsAt i v n:=by
 have f:∀ {b o:Nat} {u:Value},W.cell? ⟨b,o,none⟩=some u->i.cell? ⟨b,o,none⟩=some u:=fun {b o u} d=>by
  have g:=zb8 d;obtain⟨p,q⟩:=z.noCell d;have e:=za0e y g (by rw[A];exact g) p q;rw[<-d];unfold World.cell?;rw[e]
 rcases h with h | ⟨b,o,k,r,s,d⟩
 ·exact Or.inl h
 ·exact Or.inr ⟨b,o,k,r,s,fun j hj=>⟨f (d j hj).1,f (d j hj).2.1,f (d j hj).2.2.1,f (d j hj).2.2.2.1,f (d j hj).2.2.2.2.1,f (d j hj).2.2.2.2.2⟩⟩
def RowsCP (a:Nat->Addr) (W:World) (R:List Rw×Nat×Option Nat) (e:Ending) (w':World):Prop:= ∃v' ev,e= .returned (.tuple #[v',ev])/\RowsAt w' v' R.1/\ToldE w' a ev R.2/\BL W w'
section
variable {a : Nat → Addr} {B : Nat} {EM : World → Prop} {SAt : World → Value → (Nat → Prop) → St → Prop}
theorem zc2i (K:StoreK a B EM SAt) (HV:∀W,EM W->EnvF W a/\Hand W/\EnvL W a) (W:World) (v:Value) (FP:Nat->Prop) (b:St) (s:Sn) (vf:Value) (lo hi:Int) (hE:EM W) (b6:SAt W v FP b) (ks:Keeps b) (hx:FlsAt W vf s.2.2.2.2.2.2) (hl:s.2.2.2.2.2.2.length<=100) (b7:Short s.2.2.2.2.2.2) :
  Calls Tryz.prog 14 #[v,snV s vf,.int .i64 lo,.int .i64 hi] W (fun e w'=>RowsCP a W (rowsS b.obs s lo hi) e w'/\NewE W e):=by
 obtain⟨pt,rfl⟩:=K.ptr _ _ _ _ b6;obtain⟨T,U,rfl⟩:=hx.form;have b8:=K.size W hE;have be:Hid (∀X,BL W X->EM X):=fun X hX=>K.below W X hE (hX.mono b8);have b9:Hid (∀X,BL W X->SAt X (.pointer (some pt)) FP b):=fun X hX=>K.keep _ X _ _ (fun _=>False) _ b6 (But.of_below hX) (fun _ _ h=>h);have a4:Hid (∀(X:World) (base f g:Nat) (c:Ct) (o:List Int) (x:Fl),BL W X->CtAt X base f g c o->base<=X.heap.size->x.1.size<=1000->x.2.1.size<=1000->o.length<=100->c.1.length<=10000->c.2.length<=10000->Calls Tryz.prog 48 #[ctV f g,.pointer (some pt),flV x] X (ReadCP a X b.obs base f g c o x)):=fun X base f g c o x hX h C h2 h3 h4 h5 h6 =>
  zb9c K (fun W hW=>⟨(HV W hW).1,(HV W hW).2.1⟩) X (be.out X hX) (.pointer (some pt)) FP b (b9.out X hX) ks base f g c o x h C h2 h3 h4 h5 h6
 have O:Hid (∀X,BL W X->FlsAt X (.slice T s.2.2.2.2.2.2.length U) s.2.2.2.2.2.2):=fun X hX=>hx.below hX;have a5:Hid (∀X,BL W X->Calls Tryz.prog 45 #[snV s (.slice T s.2.2.2.2.2.2.length U)] X fun e w'=> ∃ev,e= .returned ev/\ToldE w' a ev (snapE s)/\BL X w'):=fun X hX=>za8a s _ X a (HV X (be.out X hX)).2.2 (O.out X hX) hl b7;have bf:Hid (Short s.2.2.2.2.2.2):=b7;have V:Hid (∀(n:Nat) (x:Fl),(snapE s).1=0->(s.2.2.2.2.2.2.filter (inP lo hi))[n]? =some x->(∀m y,m<n->(s.2.2.2.2.2.2.filter (inP lo hi))[m]? =some y->(fileR b.obs y).1=0)->(fileR b.obs x).1≠0->rowsS b.obs s lo hi=([],(fileR b.obs x).1,some (findF s.2.2.2.2.2.2 x.1).toNat)/\0<=findF s.2.2.2.2.2.2 x.1):=fun n x he hn hm hb=>by
  obtain⟨j,C,h2⟩:=zb7t he n x hn hm hb;rw[zb7r (zr3 he).2 C];exact⟨h2,by omega⟩
 have Y:Hid (∀(l:List Int),(snapE s).1=0->(∀x∈s.2.2.2.2.2.2.filter (inP lo hi),(fileR b.obs x).1=0)->l.Nodup->(∀p∈(readC b.obs (s.2.2.2.2.2.2.filter (inP lo hi)) ([], [])).1,p.2∈l)->rowsS b.obs s lo hi=(sortR ((aliveQ (readC b.obs (s.2.2.2.2.2.2.filter (inP lo hi)) ([], [])) l).filter (inB lo hi)),0,none)):=fun l he h hn hq=>zb7s he h l hn hq;have a6:Hid ((snapE s).1≠0->rowsS b.obs s lo hi=([],snapE s)):=fun h=>by unfold rowsS;rw[if_pos h]
 generalize rowsS b.obs s lo hi=R at V Y a6 ⊢;have aj:=SnAt.new W s (.slice T s.2.2.2.2.2.2.length U);have P:BL W (W.alloc (.cells #[.int .i64 s.1,.int .i64 s.2.1,.int .i64 s.2.2.1,.int .i64 s.2.2.2.1,.int .i64 s.2.2.2.2.1,.string s.2.2.2.2.2.1,.slice T s.2.2.2.2.2.2.length U] 25)):=alB _ _;clear hE b6 ks hx K HV b8 be b9 b7;unfold snV at a5 ⊢;obtain⟨id,ab,ac,ad,ae,op,N⟩:=s;dsimp only at *;obtain⟨L,hL⟩:∃L,N.length=L:=⟨_,rfl⟩;have ap:Hid (N.length=L):=hL;rw[hL]at hl O a5 aj P ⊢;clear hL
 go_enter Tryz.func14,Tryz.ntmps14
 go_upto_region 1 with fail
 have HA:Hid (BL W (W.alloc (.cells #[.int .i64 id,.int .i64 ab,.int .i64 ac,.int .i64 ad,.int .i64 ae,.string op,.slice T L U] 25))):=P;have ca:=a5.out _ P;clear P a5;generalize W.alloc (.cells #[.int .i64 id,.int .i64 ab,.int .i64 ac,.int .i64 ad,.int .i64 ae,.string op,.slice T L U] 25)=W1 at *;obtain⟨sb,ah⟩:∃k,W.heap.size=k:=⟨_,rfl⟩;have dj:Hid (W.heap.size=sb):=ah;rw[ah]at aj;rw[ah];clear ah;obtain⟨z0,z1,z2,z3,z4,z5,z6⟩:=aj.cells
 go_wp2_with fail
 refine ca.mono ?_;rintro e w2 ⟨ev,rfl,ht,bv⟩;clear ca z0 z1 z2 z3 z4 z5 z6;have ak:BL W w2:=HA.out.trans (bv.mono HA.out.size);have aq:=aj.below bv;clear aj bv HA;by_cases am:(snapE (id,ab,ac,ad,ae,op,N)).1=0
 case neg =>
  obtain⟨t,u,rfl⟩:=ht.bad am;have HT:Hid (ToldE w2 a (.iface t u) R.2/\R.1= []):=by
   rw[a6.out am];exact⟨ht,rfl⟩
  clear V Y a6 ht aq O a4 bf;go_wp2;go_ret2;exact⟨⟨_,_,rfl,by rw[HT.out.2];exact Or.inl ⟨none,0,rfl,rfl⟩,HT.out.1,ak⟩,zy9 (za5i _)⟩
 obtain rfl:ev= .nilIface:=ht.ok am;clear ht a6;have cc:Hid ((snapE (id,ab,ac,ad,ae,op,N)).1=0):=am;clear am;have cd:=zb8o w2
 go_wp2_with fail
 refine cd.mono ?_;rintro e I ⟨f,g,rfl,cs,bw,ct,cu,cv,cw⟩;clear cd;have ar:BL I (I.alloc (.cells #[.map (some f),.map (some g)] 97)):=alB _ _;have au:(I.alloc (.cells #[.map (some f),.map (some g)] 97)).heap[I.heap.size]? =some (.cells #[.map (some f),.map (some g)] 97 (0,0)):=heap_alloc_new _ _;have av:BL w2 (I.alloc (.cells #[.map (some f),.map (some g)] 97)):=trB cw ar;have bg:BL W (I.alloc (.cells #[.map (some f),.map (some g)] 97)):=trB ak av;have ce:Hid (∀base,f<base->g<base->CtAt (I.alloc (.cells #[.map (some f),.map (some g)] 97)) base f g ([], []) []):=fun base C h2=>(cv base C h2).below ar;have aw:=aq.below av;have bh:Hid (W.heap.size<=f/\W.heap.size<=g/\f<I.heap.size/\g<I.heap.size):=⟨Nat.le_trans ak.size cs,Nat.le_trans ak.size bw,ct,cu⟩;clear cv cw ar av aq ak cs bw ct cu
 go_upto_region 7 with fail
 have cz:(I.alloc (.cells #[.map (some f),.map (some g)] 97)).heap.size=I.heap.size+1:=by simp
 generalize I.alloc (.cells #[.map (some f),.map (some g)] 97)=w4 at *;generalize I.heap.size=cb at *;have z6:=aw.cells.2.2.2.2.2.2;have bi:=zc2f (.slice T L U) N lo hi w4 (O.out w4 bg) (by rw[ap.out];omega);obtain⟨G,hG⟩:∃G,N.filter (inP lo hi)=G:=⟨_,rfl⟩;have c9:Hid (G.length<=L):=by
  show _<=_;rw[<-hG,<-ap.out];exact List.length_filter_le _ _
 have da:Hid (∀x∈G,x.1.size<=30/\x.2.1.size<=30):=fun x hx=>by
  rw[<-hG]at hx;exact bf.out x (List.mem_filter.1 hx).1
 rw[hG]at bi V Y;clear hG bf
 go_wp2_with fail
 refine bi.mono ?_;rintro e d ⟨v5,rfl,bx,af⟩;clear bi z6;obtain⟨gq,gc,rfl⟩:=bx.form;have cf:BL W d:=trB bg af;have ag:=aw.below af;have ax:=(af.block cb (Array.getElem?_eq_some_iff.1 au).1).trans au;have bj:CtAt d d.heap.size f g ([], []) []:=by
  have C:=bh.out;have h2:=af.size;exact(ce.out d.heap.size (by omega) (by omega)).below af
 have ay:cb<d.heap.size:=(Array.getElem?_eq_some_iff.1 ax).1;have az:cb≠f/\cb≠g:=by
  have C:=bh.out;exact⟨by omega,by omega⟩
 have a0:sb<d.heap.size:=ag.lt;have a1:sb≠f/\sb≠g:=bj.noCell ag.cells.1;have H5:Hid (SnAt d sb (id,ab,ac,ad,ae,op,N) (.slice T L U)/\d.heap[cb]? =some (.cells #[.map (some f),.map (some g)] 97 (0,0))/\CtAt d d.heap.size f g ([], []) []/\BL W d/\FlsAt d (.slice gq G.length gc) G):=⟨ag,ax,bj,cf,bx⟩;have a7:Hid (∀X,But (OfC d d.heap.size f g) d X->SnAt X sb (id,ab,ac,ad,ae,op,N) (.slice T L U)/\X.heap[cb]? =some (.cells #[.map (some f),.map (some g)] 97 (0,0))/\BL W X/\FlsAt X (.slice gq G.length gc) G):=fun X hX=>by
  obtain⟨g1,g2,g3,g4,g5⟩:=H5.out;have C:=bh.out;exact⟨(za0e hX a0 a0 a1.1 a1.2).trans g1,(za0e hX ay ay az.1 az.2).trans g2,g4.trans (zb8l hX g4.size C.1 C.2.1 g4.size),g5.butC hX g3 rfl⟩
 obtain⟨M,hM⟩:∃M,G.length=M:=⟨_,rfl⟩;have HM:Hid (G.length=M):=hM;have dk:M<=L:=by rw[<-hM];exact c9.out
 rw[hM]at a7 ⊢;clear hM bx af bg aw au ag ax bj ay az a0 a1 ce cz cf;go_wp2
 go_loopw [30] (fun k wr=> ∃(n:Nat) (o:List Int),n<=M/\k= .int .i64 n/\(∀m y,m<n->G[m]? =some y->(fileR b.obs y).1=0)/\CtAt wr d.heap.size f g (readC b.obs (G.take n) ([], [])) o/\CtOk n (readC b.obs (G.take n) ([], [])) o/\But (OfC d d.heap.size f g) d wr) (fun k _=>M-(intOf k).toNat)
 case atStart=>exact ⟨0, [],by omega,rfl,fun m y hm=>absurd hm (Nat.not_lt_zero _),by simpa [readC] using H5.out.2.2.1,by simpa [readC] using CtOk.start,But.refl _ _⟩
 case round =>
  obtain⟨n,o,hn,rfl,cm,cn,co,br⟩:=hrel;have an:Hid (∀m y,m<n->G[m]? =some y->(fileR b.obs y).1=0):=cm;have i:Hid (CtAt wr d.heap.size f g (readC b.obs (G.take n) ([], [])) o/\CtOk n (readC b.obs (G.take n) ([], [])) o/\But (OfC d d.heap.size f g) d wr):=⟨cn,co,br⟩;obtain⟨bs,ai,bd,bt⟩:=a7.out wr br;have k0:wr.cell? ⟨cb,0,none⟩=some (.map (some f)):=by rw[cell_of_row _ _ _ _ _ _ ai];rfl
  have k1:wr.cell? ⟨cb,1,none⟩=some (.map (some g)):=by rw[cell_of_row _ _ _ _ _ _ ai];rfl
  clear cm cn co br;by_cases db:n<M
  case neg =>
   obtain rfl:n=M:=by omega
   have ht:G.take n=G:=List.take_of_length_le (by rw[HM.out];omega);rw[ht]at i;have a8:∀x∈G,(fileR b.obs x).1=0:=fun x hx=>by
    obtain⟨m,hm,rfl⟩:=List.getElem_of_mem hx;exact an.out m _ (by rw[<-HM.out];exact hm) (List.getElem?_eq_getElem hm)
   have dc:Hid (∀x∈G,(fileR b.obs x).1=0):=a8;have C:=i.out.2.1.rows;have P:=zc1c wr d.heap.size f g _ o i.out.1 (fun p hp=>by have:=i.out.2.1.small p hp;omega) (by omega) (by have:=i.out.2.1.nums;omega);have Z:∀(X:World) (u:Value) (l:List Int),l.Nodup->(∀z∈o,z∈l)->RowsAt X u (aliveQ (readC b.obs G ([], [])) l)->Calls Tryz.prog 51 #[u,.int .i64 lo,.int .i64 hi] X fun e w'=> ∃v',e= .returned v'/\RowsAt w' v' ((aliveQ (readC b.obs G ([], [])) l).filter (inB lo hi))/\((aliveQ (readC b.obs G ([], [])) l).filter (inB lo hi)).length<=20000/\R=(sortR ((aliveQ (readC b.obs G ([], [])) l).filter (inB lo hi)),0,none)/\BL X w':=fun X u l hn hq hu=>by
    have Q:∀p∈(readC b.obs G ([], [])).1,p.2∈l:=fun p hp=>by
     obtain⟨D,hv,hG⟩:=i.out.1.rows;exact hq _ (hG.all p hp)
    have dg:(aliveQ (readC b.obs G ([], [])) l).length<=4000:=by
     have:=(za6f _ l hn Q).length_eq;rw[this,List.length_map];exact Nat.le_trans (List.length_filter_le _ _) (by omega)
    have hR:=Y.out l cc.out dc.out hn Q;exact(zb2k u _ lo hi X hu (by omega)).mono fun e w' ⟨v',he,hr,hb⟩=>⟨v',he,hr,Nat.le_trans (List.length_filter_le _ _) (by omega),hR,hb⟩
   have cg:Hid _:=Z;clear Z a8 ht V Y a4 O an C bs ai bt
   go_wp2_with fail
   refine P.mono ?_;rintro e S ⟨v6,l,rfl,cx,Q,bz,r⟩;clear P k0 k1;have Z:=cg.out S v6 l cx Q bz;obtain⟨q6,c6,rfl⟩:=bz.form;clear cg cx Q bz i;generalize (aliveQ (readC b.obs G ([], [])) l).filter (inB lo hi)=ys at Z;generalize (aliveQ (readC b.obs G ([], [])) l).length=al at *
   go_wp2_with fail
   refine Z.mono ?_;rintro e q ⟨v7,rfl,b0,df,cy,J⟩;clear Z;have ch:=zb6d v7 ys q b0 df;obtain⟨q7,c7,rfl⟩:=b0.form;have dd:Hid (R=(sortR ys,0,none)):=cy;have dh:BL S q:=J;have E:BL W q:=(trB bd r).trans (J.mono (Nat.le_trans bd.size r.size));clear cy b0 J r;generalize ys.length=yl at *
   go_wp2_with fail
   refine ch.mono ?_;rintro e w8 ⟨v8,rfl,b3,b4,b5⟩;clear ch;obtain⟨q8,c8,rfl⟩:=b3.form;have de:Hid (NewF W (.slice q8 (sortR ys).length c8)):=NewF.up (w:=W) (w':=q) b5 E.size;clear b5;have A:Hid (RowsAt w8 (.slice q8 (sortR ys).length c8) R.1/\ToldE w8 a .nilIface R.2/\BL W w8):=by
    rw[dd.out];exact⟨b3,rfl,(trB E b4)⟩
   clear b3;generalize (sortR ys).length=sl at *;go_wp2;go_ret2;exact⟨⟨_,_,rfl,A.out.1,A.out.2.1,A.out.2.2⟩,zy9 de.out⟩
  have H:n<G.length:=by rw[HM.out];exact db
  obtain⟨bq,oq,hq,hc⟩:=bt.cells (fun e=>by rw[e]at H;simp at H);subst hq;obtain⟨c0,c1,c2,c3,c4,c5⟩:=hc n H;obtain⟨s1,s2⟩:=da.out G[n] (List.getElem_mem _);have a9:Hid (G[n]? =some G[n]/\G.take (n+1)=G.take n++ [G[n]]):=⟨List.getElem?_eq_getElem H,List.take_succ_eq_append_getElem H⟩;generalize G[n]=x at c0 c1 c2 c3 c4 c5 s1 s2 a9;have bk:=FlAt.new wr x;have r:BL wr (wr.alloc (.cells #[.string x.1,.string x.2.1,.int .i64 x.2.2.1,.int .i64 x.2.2.2.1,.int .i64 x.2.2.2.2.1,.int .i64 x.2.2.2.2.2] 43)):=alB _ _;have dl:(n:Int)<(M:Int):=by omega
  have di:(0:Int)<=(n:Int):=by omega
  have bl:BL W (wr.alloc (.cells #[.string x.1,.string x.2.1,.int .i64 x.2.2.1,.int .i64 x.2.2.2.1,.int .i64 x.2.2.2.2.1,.int .i64 x.2.2.2.2.2] 43)):=trB bd r;have bm:=i.out.1.below r;have a2:But (OfC d d.heap.size f g) d (wr.alloc (.cells #[.string x.1,.string x.2.1,.int .i64 x.2.2.1,.int .i64 x.2.2.2.1,.int .i64 x.2.2.2.2.1,.int .i64 x.2.2.2.2.2] 43)):=zh8 i.out.2.2 (But.of_below r);have m0:=za0 r k0;have m1:=za0 r k1;clear hc H bs ai bt bd
  go_upto_region 10 with fail
  generalize wr.alloc (.cells #[.string x.1,.string x.2.1,.int .i64 x.2.2.1,.int .i64 x.2.2.2.1,.int .i64 x.2.2.2.2.1,.int .i64 x.2.2.2.2.2] 43)=S at *;generalize wr.heap.size=xb at *;clear c0 c1 c2 c3 c4 c5 k0 k1 r;obtain⟨d0,d1,d2,d3,d4,d5,-⟩:=bk.cells;have C:=i.out.2.1.rows;have h2:=i.out.2.1.keys;have h3:=i.out.2.1.nums;have ao:=a4.out S d.heap.size f g _ o x bl bm a2.size (by omega) (by omega) (by omega) (by omega) (by omega);unfold flV ctV at ao;have ci:Hid (CtAt S d.heap.size f g (readC b.obs (G.take n) ([], [])) o):=bm;have aa:Hid (But (OfC d d.heap.size f g) d S/\BL W S):=⟨a2,bl⟩;have bn:Hid (FlAt S xb x):=bk;clear bm a2 bl bk C h2 h3;by_cases ba:(fileR b.obs x).1=0
  case pos =>
   have a3:Hid ((fileR b.obs x).1=0):=ba;clear ba
   go_wp2_with fail
   refine ao.mono ?_;intro e q F;obtain⟨-,rfl,cp,E⟩:(fileR b.obs x).1=0/\e= .returned .nilIface/\CtAt q d.heap.size f g (takeC x (fileR b.obs x).2 (readC b.obs (G.take n) ([], []))) (takeQ x o)/\But (OfC S d.heap.size f g) S q:=by
    rcases F with F | F
    ·exact absurd a3.out F.1
    ·exact F
   have bb:Hid ((∀m y,m<n+1->G[m]? =some y->(fileR b.obs y).1=0)/\CtAt q d.heap.size f g (readC b.obs (G.take (n+1)) ([], [])) (takeQ x o)/\CtOk (n+1) (readC b.obs (G.take (n+1)) ([], [])) (takeQ x o)/\But (OfC d d.heap.size f g) d q):=by
    obtain⟨g1,g2⟩:=a9.out;rw[g2,zb7h];refine⟨fun m y hm hy=>?_,cp,i.out.2.1.step a3.out,zh8 aa.out.1 E⟩;by_cases e:m=n
    ·subst e;rw[g1]at hy;rw[<-Option.some.inj hy];exact a3.out
    ·exact an.out m y (by omega) hy
   clear ao d0 d1 d2 d3 d4 d5 m0 m1 cp E F i ci bn aa;go_wp2;go_roundw
   case rel=>exact ⟨n+1,takeQ x o,by omega,by go_num,bb.out.1,bb.out.2.1,bb.out.2.2.1,bb.out.2.2.2⟩
   case measure=>simp [intOf];omega
  case neg =>
   obtain⟨cq,bu⟩:=V.out n x cc.out a9.out.1 an.out ba;have cj:Hid (R=([],(fileR b.obs x).1,some (findF N x.1).toNat)/\0<=findF N x.1):=⟨cq,bu⟩;obtain⟨ec,cr⟩:∃c,(fileR b.obs x).1=c+1:=⟨(fileR b.obs x).1-1,by omega⟩;have bc:Hid ((fileR b.obs x).1=ec+1):=cr;clear cq bu ba cr
   go_wp2_with fail
   refine ao.mono ?_;intro e q F;obtain⟨rfl,J⟩:e= .returned (.iface 325 (.pointer (some (a ec))))/\BL S q:=by
    rcases F with F | F
    ·refine⟨?_,F.2.2⟩;rw[F.2.1,bc.out];rfl
    ·exact absurd F.1 (by rw[bc.out];omega)
   have E:BL W q:=aa.out.2.trans (J.mono aa.out.2.size);have bo:But (OfC d d.heap.size f g) d q:=zh8 aa.out.1 (But.of_below J);have ck:=bn.out.below J;have z6:=(a7.out q bo).1.cells.2.2.2.2.2.2;obtain⟨y0,-⟩:=ck.cells;have cl:=za0q (.slice T L U) N x.1 q (O.out q E) (by rw[ap.out];omega);clear ao d0 d1 d2 d3 d4 d5 m0 m1 F i ci bn aa J bo ck a7 H5 a4 O a9 an V Y;generalize findF N x.1=fi at *
   go_wp2_with fail
   refine cl.mono ?_;rintro e w8 ⟨rfl,b4⟩;clear cl z6 y0;have bp:BL W w8:=trB E b4;have A:Hid (R.1= []/\ToldE (w8.alloc (.cells #[.int .i64 fi,.iface 325 (.pointer (some (a ec)))] 103)) a (.iface 101 (.pointer (some ⟨w8.heap.size,0,none⟩))) R.2/\BL W (w8.alloc (.cells #[.int .i64 fi,.iface 325 (.pointer (some (a ec)))] 103))):=by
    rw[cj.out.1];refine⟨rfl,⟨by rw[bc.out];omega,w8.heap.size,rfl,?_,?_⟩,bp.alloc bp.size _⟩
    ·rw[Int.toNat_of_nonneg cj.out.2];simp
    ·rw[bc.out];simp[errV]
   clear bp E;go_wp2;go_ret2;exact⟨⟨_,_,rfl,by rw[A.out.1];exact Or.inl ⟨none,0,rfl,rfl⟩,A.out.2.1,A.out.2.2⟩,zy9 (za5i _)⟩
theorem zc2j (K:StoreK a B EM SAt) (g:∀W,EM W->EnvF W a/\Hand W/\EnvL W a) (W:World) (v:Value) (c:Nat->Prop) (b:St) (s:Sn) (vf:Value) (lo hi:Int) (i:EM W) (d:SAt W v c b) (j:Keeps b) (k:FlsAt W vf s.2.2.2.2.2.2) (l:s.2.2.2.2.2.2.length<=100) (f:Short s.2.2.2.2.2.2) :
  Calls Tryz.prog 14 #[v,snV s vf,.int .i64 lo,.int .i64 hi] W (RowsCP a W (rowsS b.obs s lo hi)) :=
 (zc2i K g W v c b s vf lo hi i d j k l f).mono fun _ _ h=>h.1
end
theorem za8b {lo hi:Int} {x:Fl} (i:lo<= -1073741824) (j:1073741824<=hi) (c:fileE x=0):inP lo hi x=true:=by
 obtain⟨g,n,d,f,b⟩:=zh0 c;unfold bndB at b;simp only[Bool.and_eq_true,decide_eq_true_eq,inNum]at b;unfold inP;apply decide_eq_true;split<;>split<;>omega
theorem zc2k {obs:List Ob} {lo hi d f:Int} (v:lo<= -1073741824) (y:1073741824<=hi) (s:d<= -1073741824) (t:1073741824<=f) {x:Fl} (l:(fileR obs x).1=0) (i:List (Rw×Int)):addS lo hi x (fileR obs x).2 i=addS d f x (fileR obs x).2 i:=by
 obtain⟨g,m,u,c,n,o,p,q,j⟩:=za0h l;by_cases b:x.2.1.data.toList= [45]
 ·rw[zm5 b,zm5 b]
 ·rw[zm4 b,zm4 b];obtain rfl:g=false:=by
   cases g with
   | false=>rfl
   | true=>exact absurd (c.2 rfl) b
  congr 2;apply List.filter_congr;intro r k;have:=j r.2.1 (by simp only[keysF,Bool.false_eq_true,if_false];exact List.mem_map.2 ⟨r,k,rfl⟩);unfold inB;rw[decide_eq_true (by omega),decide_eq_true (by omega),decide_eq_true (by omega),decide_eq_true (by omega)]
theorem za8c {obs:List Ob} {lo hi f g:Int} (j:lo<= -1073741824) (k:1073741824<=hi) (c:f<= -1073741824) (d:1073741824<=g):∀(fs:List Fl) (i:Nat) (acc:List (Rw×Int)),(∀x∈fs,fileE x=0)->scanG obs lo hi fs i acc=scanG obs f g fs i acc
 | [],_,_,_=>rfl
 | x :: r,i,acc,h=>by
  have l:=h x List.mem_cons_self;have m:=fun y hy=>h y (List.mem_cons_of_mem _ hy);unfold scanG;rw[za8b j k l,za8b c d l];simp only[Bool.true_eq_false,if_false];by_cases b:(fileR obs x).1≠0
  ·rw[if_pos b,if_pos b]
  ·rw[if_neg b,if_neg b,zc2k j k c d (by simpa using b)];exact za8c j k c d r (i+1) _ m
theorem za8d {obs:List Ob} {s:Sn} {lo hi c d:Int} (i:lo<= -1073741824) (j:1073741824<=hi) (f:c<= -1073741824) (g:1073741824<=d):rowsS obs s lo hi=rowsS obs s c d:=by
 unfold rowsS;by_cases b:(snapE s).1≠0
 ·rw[if_pos b,if_pos b]
 ·rw[if_neg b,if_neg b,za8c i j f g _ 0 [] (fun x hx=>((zr3 (by simpa using b)).2.1 x hx).1)]
theorem za8e {obs:List Ob} {s:Sn} {lo hi:Int} (h:(rowsS obs s lo hi).2.1≠0):(rowsS obs s lo hi).1= []:=by
 unfold rowsS at h ⊢;split
 ·rfl
 ·rename_i b;rw[if_neg b]at h;split
  ·rfl
  ·rename_i c;rw[if_neg c]at h;exact absurd rfl h
theorem zc2l {obs:List Ob} {lo hi:Int} {x:Fl} (b:List (Rw×Int)):(addS lo hi x (fileR obs x).2 b).length<=b.length+40:=by
 by_cases c:x.2.1.data.toList= [45]
 ·rw[zm5 c];exact Nat.le_trans (List.length_filter_le _ _) (by omega)
 ·rw[zm4 c,List.length_append,List.length_map];have d:=(zg9 dataK zm3 (fileR obs x).2.data.toList).2;have f:=List.length_filter_le (inB lo hi) (dataO (fileR obs x).2.data.toList).1;have g:(dataO (fileR obs x).2.data.toList).1.length<=40:=d;omega
theorem za0r {obs:List Ob} {lo hi:Int} :∀(fs:List Fl) (i:Nat) (acc:List (Rw×Int)),(scanG obs lo hi fs i acc).1.length<=acc.length+40*fs.length
 | [],_,_=>by simp[scanG]
 | x :: r,i,acc=>by
  unfold scanG;rw[List.length_cons];by_cases b:inP lo hi x=false
  ·rw[if_pos b];have:=za0r (obs:=obs) (lo:=lo) (hi:=hi) r (i+1) acc;omega
  ·rw[if_neg b];by_cases c:(fileR obs x).1≠0
   ·rw[if_pos c];simp
   ·rw[if_neg c];have d:=za0r (obs:=obs) (lo:=lo) (hi:=hi) r (i+1) (addS lo hi x (fileR obs x).2 acc);have f:=zc2l (obs:=obs) (lo:=lo) (hi:=hi) (x:=x) acc;omega
theorem zc2m (obs:List Ob) (s:Sn) (lo hi:Int) (h:s.2.2.2.2.2.2.length<=100):(rowsS obs s lo hi).1.length<=4000:=by
 unfold rowsS;split
 ·simp
 ·split
  ·simp
  ·dsimp only;rw[zo4,List.length_map];have:=za0r (obs:=obs) (lo:=lo) (hi:=hi) s.2.2.2.2.2.2 0 [];simp only[List.length_nil]at this;omega
section
variable {a : Nat → Addr} {B : Nat} {EM : World → Prop} {SAt : World → Value → (Nat → Prop) → St → Prop}
theorem zc2n (k:∀W,EM W->EnvF W a/\Hand W/\EnvL W a) (W:World) (s:Sn) (vf:Value) (lo hi:Int) (l:EM W) (m:FlsAt W vf s.2.2.2.2.2.2) :
  Calls Tryz.prog 14 #[.pointer none,snV s vf,.int .i64 lo,.int .i64 hi] W fun e w'=> ∃v',e= .returned (.tuple #[v',errV a 3])/\BL W w':=by
 have b:BL W (W.alloc (.cells #[.int .i64 s.1,.int .i64 s.2.1,.int .i64 s.2.2.1,.int .i64 s.2.2.2.1,.int .i64 s.2.2.2.2.1,.string s.2.2.2.2.2.1,vf] 25)):=alB _ _;have c:=za0 b (k W l).1.data.shape;have d:=b.drew;have t:(W.alloc (.cells #[.int .i64 s.1,.int .i64 s.2.1,.int .i64 s.2.2.1,.int .i64 s.2.2.2.1,.int .i64 s.2.2.2.2.1,.string s.2.2.2.2.2.1,vf] 25)).drew.cell? ⟨1,0,none⟩=some (.iface 325 (.pointer (some (a 2)))):=c;obtain⟨n,o,rfl⟩:=m.form;unfold snV;clear m k l;obtain⟨p,f,g,i,j,q,r⟩:=s;dsimp only at *;generalize r.length=L at *
 go_enter Tryz.func14,Tryz.ntmps14
 go_upto_region 1 with fail
 generalize W.alloc (.cells #[.int .i64 p,.int .i64 f,.int .i64 g,.int .i64 i,.int .i64 j,.string q,.slice n L o] 25)=u at *;go_wp2
 go_region
 all_goals go_wp2
 all_goals go_ret2
 all_goals exact⟨_,rfl,d⟩
end
end Go.Proofs.YtgckdomafbnmkaaGreatDoor
namespace Go.Proofs.YtgckdomafbnmkaaGreatDoor
open Go Go.Lib Go.Sort
theorem zc2o {s:St} {n t:ByteArray} (k:s.cut= -1) (f:s.off=false) (i:objB n.data.toList=true) (l:t.size<=20000) (j:∀o∈s.obs,o.1≠n) (m:s.obs.length<200) (p:bytesS s.obs+t.size<=262144) :
  putC s n t=0/\putS s n t= { s with obs:=insO s.obs (n,t,s.day) } :=by
 have g:(getO s.obs n).isSome=false:=by
  cases h:getO s.obs n with
  | none=>rfl
  | some o=>exact absurd (zh2 h).2 (j o (zh2 h).1)
 have b:putE s n t=0:=by
  unfold putE;rw[if_neg (by rw[i];decide),if_neg (by omega),if_neg (by rw[f];decide),if_neg (by rw[g];decide),if_neg (by omega)]
 have c:wrtS s t.size=(t.size,s):=by
  unfold wrtS;rw[if_pos (by omega)]
 have d:bytesOf (t.data.toList.take t.size)=t:=by
  rw[List.take_of_length_le (by rw[za3];exact Nat.le_refl _),zd8]
 constructor
 ·unfold putC;rw[b,c];simp[f]
 ·unfold putS;rw[b,c];simp only[ne_eq,not_true_eq_false,if_false];rw[d]
theorem zc2p (l:List Ob) (o:Ob):bytesS (insO l o)=bytesS l+o.2.1.size:=by
 unfold bytesS insO;have h:(l.map fun o=>o.2.1.size).sum=((l.takeWhile (fun p=>decide (p.1.data.toList<o.1.data.toList))).map fun o=>o.2.1.size).sum+((l.dropWhile (fun p=>decide (p.1.data.toList<o.1.data.toList))).map fun o=>o.2.1.size).sum:=by
  rw[<-List.sum_append_nat,<-List.map_append,List.takeWhile_append_dropWhile]
 rw[h,List.map_append,List.sum_append_nat,List.map_cons,List.sum_cons];omega
structure TabX (a:List Fl×St) (n:Nat):Prop where
 off:a.2.off=false
 names:∀o∈a.2.obs,∃f∈a.1,f.1=o.1
 many:a.2.obs.length<=n
 bytes:bytesS a.2.obs<=1400*n
theorem zc2q {p:Pc} (h:(pcKnown p).2=0):fileE (pcKnown p).1=0/\(pcKnown p).1.1=p.1:=by
 refine⟨?_,(zs3 h).1⟩;unfold pcKnown at h ⊢;unfold ofF at h ⊢;split at h
 ·cases h
 ·split at h
  ·rename_i c;unfold chkF at h ⊢;rw[if_pos c];split at h
   ·rename_i b;rw[if_pos b];exact b
   ·rename_i b;exact absurd h b
  ·rename_i c;exact absurd h c
theorem zc2r {n:Int} (b:1<=n) (d:n<=1073741824):(itoa n).length<=11/\∀c∈itoa n,signB c=true:=by
 refine⟨ze7 n (by omega) (by omega),fun c hc=>?_⟩;unfold itoa at hc;rw[if_neg (by omega)]at hc;have:=zf5 _ _ hc;unfold signB;rw[decide_eq_true this.1,decide_eq_true this.2];simp
theorem zc2s {s:List UInt8} (h:pathO s≠none):objB s=true:=by
 cases f:pathO s with
 | none=>exact absurd f h
 | some q =>
  obtain⟨g,n⟩:=q;obtain⟨e,_,d⟩:=zp4 f;unfold cntB at d;simp only[Bool.and_eq_true,decide_eq_true_eq]at d;obtain⟨k,j⟩:=zc2r d.1 d.2;have i:(kindL g).length=4/\∀c∈kindL g,signB c=true:=by cases g<;>decide
  unfold objB;rw[e];simp only[Bool.and_eq_true,decide_eq_true_eq,List.all_eq_true,List.length_append,List.length_cons];refine⟨⟨fun c b=>?_,by omega⟩,by omega⟩;rw[List.mem_append,List.mem_cons]at b;rcases b with b | rfl | b
  ·exact i.2 c b
  ·decide
  ·exact j c b
theorem stepX {a:List Fl×St} {n:Nat} (A:TabOk a n) (h:TabX a n) {p:Pc} (B:pcLong p=false) (F:n<=15):TabX (stepT a p) (n+1):=by
 unfold stepT;split
 ·exact⟨h.off,h.names,Nat.le_succ_of_le h.many,Nat.le_trans h.bytes (by omega)⟩
 ·rename_i z;obtain⟨r,u⟩:=not_or.1 z;have m:(pcKnown p).2=0:=by simpa using r
  obtain⟨v,d⟩:=zc2q m;have q:∀o∈a.2.obs,o.1≠p.1:=fun o c e=>by
   obtain⟨f,g,l⟩:=h.names o c;apply u;obtain⟨j,y,rfl⟩:=List.getElem_of_mem g;rcases Int.lt_or_le (findF a.1 p.1) 0 with i | i
   ·exfalso;unfold findF at i;split at i
    ·omega
    ·rename_i b;rw[List.findIdx?_eq_none_iff]at b;have:=b _ (List.getElem_mem y);simp[l,e]at this
   ·exact i
  have k:objB p.1.data.toList=true:=by
   have:=zc2s (zp5 v);rw[d]at this;exact this
  have C:=za7v B;have D:=h.many;have E:=h.bytes;obtain⟨-,e⟩:=zc2o (s:=a.2) (n:=p.1) (t:=pcPut p) A.cut h.off k (by omega) q (by omega) (by omega);rw[e];refine⟨h.off,fun o c=>?_,?_,?_⟩
  ·rw[zg0]at c;rcases c with rfl | c
   ·exact⟨(pcKnown p).1,za0o.2 (Or.inl rfl),d⟩
   ·obtain⟨f,g,l⟩:=h.names o c;exact⟨f,za0o.2 (Or.inr g),l⟩
  ·dsimp only;rw[zy4];omega
  ·dsimp only;rw[zc2p];dsimp only;omega
theorem tabX {l:List Pc} (b:∀p∈l,pcLong p=false) (c:l.length<=15):∀n,n<=l.length->TabX (tabT (l.take n)) n
 | 0,_=>⟨rfl,fun _ h=>(nomatch h),Nat.le_refl _,Nat.le_refl _⟩
 | n+1,h=>by
  rw[za0n l (Nat.lt_of_succ_le h)];exact stepX (zs4 b n (Nat.le_of_succ_le h)) (tabX b c n (Nat.le_of_succ_le h)) (b _ (List.getElem_mem _)) (by omega)
abbrev g99:ByteArray:=⟨#[103,111,110,101,47,57,57]⟩
def f99 (zs:List Int) (q:Int):Fl:=(g99,⟨#[45]⟩,(riseZ zs).length,(endsZ (riseZ zs)).1,(endsZ (riseZ zs)).2,q)
end Go.Proofs.YtgckdomafbnmkaaGreatDoor
namespace Go.Proofs.YtgckdomafbnmkaaGreatDoor
open Go.RowKit Go.Extern.Stop Go.Stop Go.Extern Go.Sort Go.Shelf Go.Lib
def olderB (g f:Fl):Bool:= !goneP f.1 && decide (f.2.2.2.2.2<g.2.2.2.2.2)
def idleB (fs:List Fl) (g:Fl):Bool:=goneP g.1 && !(fs.any (olderB g))
def idleL (fs:List Fl):List ByteArray:=(fs.filter (idleB fs)).map (·.1)
def snF (s:Sn) (fs:List Fl):Sn:=(s.1,s.2.1,s.2.2.1,s.2.2.2.1,s.2.2.2.2.1,s.2.2.2.2.2.1,fs)
end Go.Proofs.YtgckdomafbnmkaaGreatDoor
namespace Go.Proofs.YtgckdomafbnmkaaGreatDoor
open Go Go.Lib
def hasP (fs:List Fl) (p:ByteArray):Bool:=fs.any fun f=>decide (f.1=p)
def inT (ts:List ByteArray) (p:ByteArray):Bool:=ts.any fun t=>decide (t=p)
theorem zs5 {b:List Fl} {p:ByteArray} :hasP b p=true↔∃f∈b,f.1=p:=by simp[hasP]
theorem za8f {b:List ByteArray} {p:ByteArray} :inT b p=true↔p∈b:=by
 simp only[inT,List.any_eq_true,decide_eq_true_eq];exact⟨fun ⟨x,hx,e⟩=>e▸hx,fun h=>⟨p,h,rfl⟩⟩
end Go.Proofs.YtgckdomafbnmkaaGreatDoor
namespace Go.Proofs.YtgckdomafbnmkaaGreatDoor
open Go.RowKit Go.Extern.Stop Go.Stop Go.Extern Go.Sort Go.Shelf Go.Lib
theorem But.grown {w w':World} {b:Option Nat} (h:w.grownBy w' b):But (fun k=>b=some k) w w':=⟨h.os,h.tape,h.output,h.size,fun k hk hn=>h.block k hk (fun e=>hn e.symm)⟩
theorem za8 {P:Nat->Prop} {w w':World} {B:Nat} {e:TypeId} {z:Nat} {v:Value} {n:Nat} {xs:List Value} (h:w.ownsRow B e z v n xs) (l:But P w w') (m:∀k,v.ownBlock=some k->¬P k):w'.ownsRow B e z v n xs:=by
 refine⟨h.1,?_⟩;rcases h.2 with i | ⟨g,b,c,d,j,f,rest⟩
 ·exact Or.inl i
 ·exact Or.inr ⟨g,b,c,d,j,(l.block g (lt_of_block f) (m g (by rw[d];rfl))).trans f,rest⟩
def TsAt (w:World) (v:Value) (ts:List ByteArray):Prop :=
 (v= .slice none 0 0/\ts= [])\/∃b cap,v= .slice (some ⟨b,0,none⟩) ts.length cap/\ts.length<=cap/\∀j (h:j<ts.length),w.cell? ⟨b,j,none⟩=some (.string ts[j])
theorem TsAt.form {w:World} {v:Value} {d:List ByteArray} (h:TsAt w v d):∃q c,v= .slice q d.length c:=by
 rcases h with⟨rfl,rfl⟩|⟨b,f,rfl,_⟩
 ·exact⟨_,_,rfl⟩
 ·exact⟨_,_,rfl⟩
theorem TsAt.below {w w':World} {v:Value} {d:List ByteArray} (h:TsAt w v d) (k:BL w w'):TsAt w' v d:=by
 rcases h with h | ⟨b,c,f,g,i⟩
 ·exact Or.inl h
 ·exact Or.inr ⟨b,c,f,g,fun j hj=>za0 k (i j hj)⟩
theorem TsAt.cells {w:World} {q:Option Addr} {n c:Nat} {d:List ByteArray} (h:TsAt w (.slice q n c) d) (f:d≠ []):∃b,q=some ⟨b,0,none⟩/\∀j (h:j<d.length),w.cell? ⟨b,j,none⟩=some (.string d[j]):=by
 rcases h with⟨_,e⟩|⟨b,i,e,_,g⟩
 ·exact absurd e f
 ·injection e with e1 e2 e3;exact⟨b,e1,g⟩
theorem zg1 {w:World} {B:Nat} {v:Value} {b:List ByteArray} (h:w.ownsRow B 9 1 v b.length (b.map Value.string)):TsAt w v b:=by
 rcases h.2 with⟨c,i⟩|⟨g,d,f,c,_,k,l,_,_,m⟩
 ·exact Or.inl ⟨c,List.length_eq_zero_iff.1 i⟩
 ·refine Or.inr ⟨g,d,c,l,fun j hj=>?_⟩;rw[cell_of_row _ _ _ _ _ _ k];have e:(f.toList.take (b.length*1))[j]? =(b.map Value.string)[j]? :=by rw[m]
  rw[List.getElem?_take,if_pos (by omega),Array.getElem?_toList]at e;rw[e];simp[hj]
theorem za5 {w:World} {B:Nat} {e:TypeId} {z:Nat} {v:Value} {n:Nat} {xs:List Value} (h:w.ownsRow B e z v n xs) {k:Nat} (b:v.ownBlock=some k):B<=k/\k<w.heap.size/\∃cur,w.heap[k]? =some (.cells cur e (0,0)):=by
 rcases h.2 with⟨rfl,_⟩|⟨g,f,cur,rfl,d,c,_⟩
 ·simp[Value.ownBlock]at b
 ·simp only[Value.ownBlock,Option.some.injEq]at b;subst b;exact⟨d,lt_of_block c,cur,c⟩
def IdxOf {β:Type} (p:β->Bool) (fs:List β) (i:Int):Prop:=(i= -1/\fs.any p=false)\/∃n:Nat,∃h:n<fs.length,i=n/\p fs[n]=true/\(∀j (hj:j<fs.length),j<n->p fs[j]=false)/\fs.any p=true
theorem za0s {β:Type} {p:β->Bool} {b:List β} {n:Nat} (h:∀j (h:j<b.length),j<n->p b[j]=false) (d:n<b.length) (e:p b[n]=false):∀j (h:j<b.length),j<n+1->p b[j]=false:=fun j hj hjn=>by
 by_cases c:j=n
 ·subst c;exact e
 ·exact h j hj (by omega)
theorem za0t {β:Type} {p:β->Bool} {b:List β} {n:Nat} (h:∀j (h:j<b.length),j<n->p b[j]=false) (c:n<b.length) (e:p b[n]=true):IdxOf p b n:=Or.inr ⟨n,c,rfl,e,h,List.any_eq_true.2 ⟨_,List.getElem_mem c,e⟩⟩
theorem za0u {β:Type} {p:β->Bool} {b:List β} (h:∀j (h:j<b.length),j<b.length->p b[j]=false):IdxOf p b (-1):=Or.inl ⟨rfl,by
 rw[List.any_eq_false];intro x d;obtain⟨j,c,rfl⟩:=List.mem_iff_getElem.1 d;rw[h j c c];simp⟩
def AskF (g:Nat) (cb:Array Value) (p:Fl->Bool) (fs:List Fl) (w:World):Prop:= ∀f∈fs,∀W,BL w W->Calls Tryz.prog g (#[flV f]++cb) W fun e w'=>e= .returned (.bool (p f))/\BL W w'
theorem za8g (g:Nat) (I:Array Value) (p:Fl->Bool) (v:Value) (c:List Fl) (w:World) (J:FlsAt w v c) (hl:c.length<=20000) (eg:∀args w,(callFunc g args).run Tryz.prog w= .ok (.enter g args) w) (U:AskF g I p c w) :
  Calls Tryz.prog 102 #[v,.func (.func g) #[] I] w fun e w'=> ∃i,e= .returned (.int .i64 i)/\IdxOf p c i/\BL w w':=by
 obtain⟨q,Q,rfl⟩:=J.form;have K:Hid (FlsAt w (.slice q c.length Q) c):=J;have V:Hid (AskF g I p c w):=U;obtain⟨L,F⟩:∃L,c.length=L:=⟨_,rfl⟩;have M:Hid (c.length=L):=F;rw[F]at hl ⊢;clear F J U
 go_enter Tryz.func102,Tryz.ntmps102
 go_wp2
 go_loopw [8] (fun k wr=> ∃n:Nat,n<=L/\k= .int .i64 n/\(∀j (h:j<c.length),j<n->p c[j]=false)/\BL w wr) (fun k _=>L-(intOf k).toNat)
 case atStart=>exact ⟨0,by omega,rfl,fun j h h'=>absurd h' (Nat.not_lt_zero _),Below.refl _ _⟩
 case round =>
  obtain⟨n,hn,rfl,D,s⟩:=hrel;have r:Hid (∀j (h:j<c.length),j<n->p c[j]=false):=D;clear D;by_cases N:n<L
  ·have l:n<c.length:=by rw[M.out];exact N
   obtain⟨b,o,X,G⟩:=(K.out.below s).cells (fun e=>by rw[e]at l;simp at l);subst X;obtain⟨u,y,z,A,B,C⟩:=G n l;have d:=V.out c[n] (List.getElem_mem _) wr s;have hi:(n:Int)<(L:Int):=by omega
   have W:(0:Int)<=(n:Int):=by omega
   cases m:p c[n] with
   | true =>
    have E:Hid (IdxOf p c n):=za0t r.out l m;rw[m]at d;unfold flV at d;clear G m;generalize c[n]=f at u y z A B C d;clear l;obtain⟨Y,Z,fn,R,S,H⟩:=f;dsimp only at u y z A B C d
    go_wp2_with (go_at_fn g;refine d.mono ?_;rintro e T ⟨rfl,t⟩)
    go_ret;exact⟨_,rfl,E.out,(trB s t)⟩
   | false =>
    have O:Hid (∀j (h:j<c.length),j<n+1->p c[j]=false):=za0s r.out l m;rw[m]at d;unfold flV at d;clear G m;generalize c[n]=f at u y z A B C d;clear l;obtain⟨Y,Z,fn,R,S,H⟩:=f;dsimp only at u y z A B C d
    go_wp2_with (go_at_fn g;refine d.mono ?_;rintro e T ⟨rfl,t⟩)
    have P:BL w T:=trB s t;go_roundw
    case rel=>exact ⟨n+1,by omega,by go_num,O.out,P⟩
    case measure=>simp [intOf];omega
  ·obtain rfl:n=L:=by omega
   have E:Hid (IdxOf p c (-1)):=za0u (fun j hj _=>r.out j hj (by rw[<-M.out];exact hj));go_wp2;go_ret;exact⟨_,rfl,E.out,s⟩
theorem zc2t (g:Nat) (k:Array Value) (p:Fl->Bool) (v:Value) (b:List Fl) (w:World) (l:FlsAt w v b) (y:b.length<=20000) (o:∀args w,(callFunc g args).run Tryz.prog w= .ok (.enter g args) w) (r:AskF g k p b w) :
  Calls Tryz.prog 65 #[v,.func (.func g) #[] k] w fun e w'=>e= .returned (.bool (b.any p))/\BL w w':=by
 have c:=za8g g k p v b w l y o r;obtain⟨q,z,rfl⟩:=l.form;generalize b.length=L at c ⊢;clear l r o
 go_enter Tryz.func65,Tryz.ntmps65
 go_wp2_with fail
 refine c.mono ?_;rintro e s ⟨i,rfl,t,f⟩;clear c;have m:Hid (BL w s):=f;clear f;rcases t with⟨rfl,d⟩|⟨n,u,rfl,-,-,d⟩
 ·have j:Hid (_=_):=d;clear d;go_wp2;go_ret;exact⟨by rw[j.out];rfl,m.out⟩
 ·have j:Hid (_=_):=d;have A:(0:Int)<=(n:Int):=by omega
  clear d u;go_wp2;go_ret;exact⟨by rw[j.out];rfl,m.out⟩
theorem zc2u (v:Value) (c:List ByteArray) (p:ByteArray) (w:World) (u:TsAt w v c) (H:c.length<=20000) :
  Calls Tryz.prog 112 #[v,.string p] w fun e w'=> ∃i,e= .returned (.int .i64 i)/\IdxOf (fun t=>decide (t=p)) c i/\w'=w:=by
 obtain⟨q,E,rfl⟩:=u.form;have y:Hid (TsAt w (.slice q c.length E) c):=u;obtain⟨L,r⟩:∃L,c.length=L:=⟨_,rfl⟩;have z:Hid (c.length=L):=r;rw[r]at H ⊢;clear r u
 go_enter Tryz.func112,Tryz.ntmps112
 go_wp2
 go_loopw [8] (fun k wr=> ∃n:Nat,n<=L/\k= .int .i64 n/\(∀j (h:j<c.length),j<n->decide (c[j]=p)=false)/\wr=w) (fun k _=>L-(intOf k).toNat)
 case atStart=>exact ⟨0,by omega,rfl,fun j h h'=>absurd h' (Nat.not_lt_zero _),rfl⟩
 case round =>
  obtain⟨n,J,rfl,m,rfl⟩:=hrel;have l:Hid (∀j (h:j<c.length),j<n->decide (c[j]=p)=false):=m;clear m;by_cases A:n<L
  ·have d:n<c.length:=by rw[z.out];exact A
   obtain⟨b,G,s⟩:=y.out.cells (fun e=>by rw[e]at d;simp at d);subst G;have B:=s n d;have I:(n:Int)<(L:Int):=by omega
   have F:(0:Int)<=(n:Int):=by omega
   by_cases g:c[n]=p
   ·have o:Hid (IdxOf (fun t=>decide (t=p)) c n):=za0t (p:=fun t=>decide (t=p)) l.out d (decide_eq_true g);rw[g]at B;clear s g d;have C:(p.toList == p.toList)=true:=by simp
    go_wp2;go_ret;exact⟨_,rfl,o.out,rfl⟩
   ·have D:Hid (∀j (h:j<c.length),j<n+1->decide (c[j]=p)=false):=za0s (p:=fun t=>decide (t=p)) l.out d (decide_eq_false g);have C:(p.toList == c[n].toList)=false:=neBB (fun e=>g (zc1 e).symm);clear s g;generalize c[n]=f at B C;clear d;go_wp2;go_roundw
    case rel=>exact ⟨n+1,by omega,by go_num,D.out,by first | rfl | trivial⟩
    case measure=>simp [intOf];omega
  ·obtain rfl:n=L:=by omega
   have o:Hid (IdxOf (fun t=>decide (t=p)) c (-1)):=za0u (p:=fun t=>decide (t=p)) (fun j hj _=>l.out j hj (by rw[<-z.out];exact hj));go_wp2;go_ret;exact⟨_,rfl,o.out,rfl⟩
theorem zc2v (v:Value) (d:List ByteArray) (p:ByteArray) (w:World) (g:TsAt w v d) (l:d.length<=20000) :
  Calls Tryz.prog 57 #[v,.string p] w fun e w'=>e= .returned (.bool (inT d p))/\w'=w:=by
 have b:=zc2u v d p w g l;unfold inT;obtain⟨q,m,rfl⟩:=g.form;generalize d.length=L at b ⊢;clear g
 go_enter Tryz.func57,Tryz.ntmps57
 go_wp2_with fail
 refine b.mono ?_;rintro e r ⟨i,rfl,j,rfl⟩;clear b;rcases j with⟨rfl,c⟩|⟨n,k,rfl,-,-,c⟩
 ·have f:Hid (_=_):=c;clear c;go_wp2;go_ret;exact⟨by rw[f.out];rfl,rfl⟩
 ·have f:Hid (_=_):=c;have o:(0:Int)<=(n:Int):=by omega
  clear c k;go_wp2;go_ret;exact⟨by rw[f.out];rfl,rfl⟩
theorem zc2w (W:World) (x y:Fl):FlsAt (W.alloc (.cells #[.string x.1,.string x.2.1,.int .i64 x.2.2.1,.int .i64 x.2.2.2.1,.int .i64 x.2.2.2.2.1,.int .i64 x.2.2.2.2.2,.string y.1,.string y.2.1,.int .i64 y.2.2.1,.int .i64 y.2.2.2.1,.int .i64 y.2.2.2.2.1,.int .i64 y.2.2.2.2.2] 43)) (.slice (some ⟨W.heap.size,0,none⟩) 2 2) [x,y]:=by
 refine Or.inr ⟨W.heap.size,0,2,rfl,Nat.le_refl _,fun j hj=>?_⟩
 match j,hj with
 | 0,_=>simp
 | 1,_=>simp
section
variable {a : Nat → Addr} {B : Nat} {EM : World → Prop} {SAt : World → Value → (Nat → Prop) → St → Prop}
theorem ScanK.up (K:ScanK a EM SAt) (n:Nat):ScanK a (upE EM n) SAt where
 rows:=fun W v FP st s vf lo hi h=>K.rows W v FP st s vf lo hi h.1
 rows0:=fun W s vf lo hi h=>K.rows0 W s vf lo hi h.1
end
def longFs (fs:List Fl):Bool:=(decide (40<fs.length) && decide (fs.length≠60) && decide (fs.length≠61)) || fs.any longFB
theorem za8h {b:List Fl} (h:longFs b=false):b.length<=61/\∀f∈b,f.1.size<=30/\f.2.1.size<=30:=by
 unfold longFs at h;rw[Bool.or_eq_false_iff]at h;refine⟨?_,fun f hf=>?_⟩
 ·have c:=h.1;rcases Nat.lt_or_ge 40 b.length with d | d
  ·simp only[d,decide_true,Bool.true_and]at c;simp at c;omega
  ·omega
 ·have:=List.any_eq_false.1 h.2 f hf;simp only[longFB,Bool.or_eq_true,decide_eq_true_eq,not_or]at this;omega
theorem za0v {b:List Fl} {n:Nat} (h:∀j (h:j<b.length),j<n->longFB b[j]=false) (d:n<b.length) (e:longFB b[n]=false):∀j (h:j<b.length),j<n+1->longFB b[j]=false:=fun j hj hjn=>by
 rcases Nat.lt_or_ge j n with c | c
 ·exact h j hj c
 ·obtain rfl:j=n:=by omega
  exact e
theorem za8i (v:Value) (c:List Fl) (w:World) (hx:FlsAt w v c) (hl:c.length<=maxLen) (aa:∀f∈c,f.1.size<=maxLen/\f.2.1.size<=maxLen) :
  Calls Tryz.prog 18 #[v] w fun e w'=>e= .returned (.int .i64 (if longFs c then 1 else 0))/\BL w w':=by
 obtain⟨q,ac,rfl⟩:=hx.form;have P:Hid (FlsAt w (.slice q c.length ac) c):=hx;have Q:Hid (∀f∈c,f.1.size<=maxLen/\f.2.1.size<=maxLen):=aa;obtain⟨L,hL⟩:∃L,c.length=L:=⟨_,rfl⟩;have y:Hid (c.length=L):=hL;rw[hL]at hl ⊢;unfold maxLen at hl;generalize hR:(if longFs c then (1:Int) else 0)=R;have O:Hid ((if longFs c then (1:Int) else 0)=R):=hR;clear hL hx aa hR;by_cases r:40<L/\L≠60/\L≠61
 ·have u:R=1:=by
   rw[<-O.out,if_pos];unfold longFs;rw[y.out];simp[r.1,r.2.1,r.2.2]
  subst u;obtain⟨b1,b2,b3⟩:=r;have i1:(40:Int)<(L:Int):=by omega
  have j2:((L:Int) != 60)=true:=by simp;omega
  have j3:((L:Int) != 61)=true:=by simp;omega
  go_enter Tryz.func18,Tryz.ntmps18
  go_wp2;go_ret;exact⟨rfl,Below.refl _ _⟩
 ·have HS:Hid ((decide (40<c.length) && decide (c.length≠60) && decide (c.length≠61))=false):=by
   show _=_;rw[y.out];rw[Bool.eq_false_iff];intro h;simp only[Bool.and_eq_true,decide_eq_true_eq]at h;exact r ⟨h.1.1,h.1.2,h.2⟩
  have ab:(¬(40:Int)<(L:Int))\/((40:Int)<(L:Int)/\(L:Int)=60)\/((40:Int)<(L:Int)/\¬(L:Int)=60/\(L:Int)=61):=by omega
  clear r;rcases ab with i1 | ⟨i1,i2⟩|⟨i1,i2,i3⟩
  ·skip
   go_enter Tryz.func18,Tryz.ntmps18
   go_wp2
   go_loopw [3] (fun k wr=> ∃n:Nat,n<=L/\k= .int .i64 n/\(∀j (h:j<c.length),j<n->longFB c[j]=false)/\BL w wr) (fun k _=>L-(intOf k).toNat)
   case atStart=>exact ⟨0,by omega,rfl,fun j h h'=>absurd h' (Nat.not_lt_zero _),Below.refl _ _⟩
   case round =>
    obtain⟨n,hn,rfl,t,p⟩:=hrel;have s:Hid (∀j (h:j<c.length),j<n->longFB c[j]=false):=t;clear t;by_cases z:n<L
    ·have g:n<c.length:=by rw[y.out];exact z
     obtain⟨b,o,T,C⟩:=(P.out.below p).cells (fun e=>by rw[e]at g;simp at g);subst T;obtain⟨D,E,F,G,H,I⟩:=C n g;obtain⟨J,K⟩:=Q.out c[n] (List.getElem_mem _);have d:=zx3 c[n] wr J K;have i:longFB c[n]=true->R=1:=fun e=>by
      rw[<-O.out,if_pos];unfold longFs;rw[Bool.or_eq_true];exact Or.inr (List.any_eq_true.2 ⟨c[n],List.getElem_mem _,e⟩)
     have l:=fun e=>za0v s.out g e;unfold flV at d;generalize longFB c[n]=W at d i l;generalize c[n]=f at D E F G H I d;obtain⟨fp,fq,fn,Y,Z,U⟩:=f;dsimp only at D E F G H I d;have X:(n:Int)<(L:Int):=by omega
     have S:(0:Int)<=(n:Int):=by omega
     clear C J K g
     cases W with
     | true =>
      obtain rfl:=i rfl;simp only[if_true]at d;clear i l
      go_wp2_with fail
      refine d.mono ?_;rintro e N ⟨rfl,m⟩;clear d;go_wp2;go_ret;exact⟨rfl,(trB p m)⟩
     | false =>
      have A:Hid (∀j (h:j<c.length),j<n+1->longFB c[j]=false):=l rfl;simp only[Bool.false_eq_true,if_false]at d;clear i l
      go_wp2_with fail
      refine d.mono ?_;rintro e N ⟨rfl,m⟩;clear d;have B:BL w N:=trB p m;go_wp2;go_roundw
      case rel=>exact ⟨n+1,by omega,by go_num,A.out,B⟩
      case measure=>simp [intOf];omega
    ·obtain rfl:n=L:=by omega
     have u:R=0:=by
      rw[<-O.out,if_neg];unfold longFs;rw[HS.out,Bool.false_or];intro h;obtain⟨f,V,e⟩:=List.any_eq_true.1 h;obtain⟨j,M,rfl⟩:=List.mem_iff_getElem.1 V;rw[s.out j M (by rw[<-y.out];exact M)]at e;cases e
     subst u;go_wp2;go_ret;exact⟨rfl,p⟩
  ·have j2:((L:Int) != 60)=false:=by rw[i2];rfl
   go_enter Tryz.func18,Tryz.ntmps18
   go_wp2
   go_loopw [3] (fun k wr=> ∃n:Nat,n<=L/\k= .int .i64 n/\(∀j (h:j<c.length),j<n->longFB c[j]=false)/\BL w wr) (fun k _=>L-(intOf k).toNat)
   case atStart=>exact ⟨0,by omega,rfl,fun j h h'=>absurd h' (Nat.not_lt_zero _),Below.refl _ _⟩
   case round =>
    obtain⟨n,hn,rfl,t,p⟩:=hrel;have s:Hid (∀j (h:j<c.length),j<n->longFB c[j]=false):=t;clear t;by_cases z:n<L
    ·have g:n<c.length:=by rw[y.out];exact z
     obtain⟨b,o,T,C⟩:=(P.out.below p).cells (fun e=>by rw[e]at g;simp at g);subst T;obtain⟨D,E,F,G,H,I⟩:=C n g;obtain⟨J,K⟩:=Q.out c[n] (List.getElem_mem _);have d:=zx3 c[n] wr J K;have i:longFB c[n]=true->R=1:=fun e=>by
      rw[<-O.out,if_pos];unfold longFs;rw[Bool.or_eq_true];exact Or.inr (List.any_eq_true.2 ⟨c[n],List.getElem_mem _,e⟩)
     have l:=fun e=>za0v s.out g e;unfold flV at d;generalize longFB c[n]=W at d i l;generalize c[n]=f at D E F G H I d;obtain⟨fp,fq,fn,Y,Z,U⟩:=f;dsimp only at D E F G H I d;have X:(n:Int)<(L:Int):=by omega
     have S:(0:Int)<=(n:Int):=by omega
     clear C J K g
     cases W with
     | true =>
      obtain rfl:=i rfl;simp only[if_true]at d;clear i l
      go_wp2_with fail
      refine d.mono ?_;rintro e N ⟨rfl,m⟩;clear d;go_wp2;go_ret;exact⟨rfl,(trB p m)⟩
     | false =>
      have A:Hid (∀j (h:j<c.length),j<n+1->longFB c[j]=false):=l rfl;simp only[Bool.false_eq_true,if_false]at d;clear i l
      go_wp2_with fail
      refine d.mono ?_;rintro e N ⟨rfl,m⟩;clear d;have B:BL w N:=trB p m;go_wp2;go_roundw
      case rel=>exact ⟨n+1,by omega,by go_num,A.out,B⟩
      case measure=>simp [intOf];omega
    ·obtain rfl:n=L:=by omega
     have u:R=0:=by
      rw[<-O.out,if_neg];unfold longFs;rw[HS.out,Bool.false_or];intro h;obtain⟨f,V,e⟩:=List.any_eq_true.1 h;obtain⟨j,M,rfl⟩:=List.mem_iff_getElem.1 V;rw[s.out j M (by rw[<-y.out];exact M)]at e;cases e
     subst u;go_wp2;go_ret;exact⟨rfl,p⟩
  ·have j2:((L:Int) != 60)=true:=by simp[i2]
   have j3:((L:Int) != 61)=false:=by rw[i3];rfl
   go_enter Tryz.func18,Tryz.ntmps18
   go_wp2
   go_loopw [3] (fun k wr=> ∃n:Nat,n<=L/\k= .int .i64 n/\(∀j (h:j<c.length),j<n->longFB c[j]=false)/\BL w wr) (fun k _=>L-(intOf k).toNat)
   case atStart=>exact ⟨0,by omega,rfl,fun j h h'=>absurd h' (Nat.not_lt_zero _),Below.refl _ _⟩
   case round =>
    obtain⟨n,hn,rfl,t,p⟩:=hrel;have s:Hid (∀j (h:j<c.length),j<n->longFB c[j]=false):=t;clear t;by_cases z:n<L
    ·have g:n<c.length:=by rw[y.out];exact z
     obtain⟨b,o,T,C⟩:=(P.out.below p).cells (fun e=>by rw[e]at g;simp at g);subst T;obtain⟨D,E,F,G,H,I⟩:=C n g;obtain⟨J,K⟩:=Q.out c[n] (List.getElem_mem _);have d:=zx3 c[n] wr J K;have i:longFB c[n]=true->R=1:=fun e=>by
      rw[<-O.out,if_pos];unfold longFs;rw[Bool.or_eq_true];exact Or.inr (List.any_eq_true.2 ⟨c[n],List.getElem_mem _,e⟩)
     have l:=fun e=>za0v s.out g e;unfold flV at d;generalize longFB c[n]=W at d i l;generalize c[n]=f at D E F G H I d;obtain⟨fp,fq,fn,Y,Z,U⟩:=f;dsimp only at D E F G H I d;have X:(n:Int)<(L:Int):=by omega
     have S:(0:Int)<=(n:Int):=by omega
     clear C J K g
     cases W with
     | true =>
      obtain rfl:=i rfl;simp only[if_true]at d;clear i l
      go_wp2_with fail
      refine d.mono ?_;rintro e N ⟨rfl,m⟩;clear d;go_wp2;go_ret;exact⟨rfl,(trB p m)⟩
     | false =>
      have A:Hid (∀j (h:j<c.length),j<n+1->longFB c[j]=false):=l rfl;simp only[Bool.false_eq_true,if_false]at d;clear i l
      go_wp2_with fail
      refine d.mono ?_;rintro e N ⟨rfl,m⟩;clear d;have B:BL w N:=trB p m;go_wp2;go_roundw
      case rel=>exact ⟨n+1,by omega,by go_num,A.out,B⟩
      case measure=>simp [intOf];omega
    ·obtain rfl:n=L:=by omega
     have u:R=0:=by
      rw[<-O.out,if_neg];unfold longFs;rw[HS.out,Bool.false_or];intro h;obtain⟨f,V,e⟩:=List.any_eq_true.1 h;obtain⟨j,M,rfl⟩:=List.mem_iff_getElem.1 V;rw[s.out j M (by rw[<-y.out];exact M)]at e;cases e
     subst u;go_wp2;go_ret;exact⟨rfl,p⟩
theorem za8j (b:List Fl):(listE b).1<=12:=by
 unfold listE;split
 ·exact(by decide:(8:Nat)<=12)
 ·exact zv5 _ _ _
def oneF (n:UInt8):Fl:=(⟨#[100,97,116,97,47,n]⟩,⟨#[97]⟩,1,0,0,1)
theorem za8k (d:Nat) (h:d<10):decDigits d= [UInt8.ofNat (48+d)]:=by rw[decDigits,dif_pos h]
theorem on_1:itoa 1= [49]:=by
 have h:decDigits 1= [49]:=za8k 1 (by decide);simp[itoa,h]
theorem on_2:itoa 2= [50]:=by
 have h:decDigits 2= [50]:=za8k 2 (by decide);simp[itoa,h]
theorem za0w:pathO (oneF 49).1.data.toList=some (false,1):=by
 have h:=zp3 false [49];have b:numO [49]=some 1:=by rw[<-on_1];exact zk5 1 (by decide)
 have c:pathN [49]=some 1:=by unfold pathN;rw[b];rfl
 rw[c]at h;exact h
theorem za0x:pathO (oneF 50).1.data.toList=some (false,2):=by
 have h:=zp3 false [50];have b:numO [50]=some 2:=by rw[<-on_2];exact zk5 2 (by decide)
 have c:pathN [50]=some 2:=by unfold pathN;rw[b];rfl
 rw[c]at h;exact h
theorem zc2x:fileE (oneF 49)=0:=by
 unfold fileE;rw[za0w];decide
theorem za8l:fk (oneF 49)=1:=by unfold fk;rw[(ze8 za0w).1];rfl
theorem zc2y:fk (oneF 50)=2:=by unfold fk;rw[(ze8 za0x).1];rfl
def longSn (s:Sn):Bool:=decide (30<s.2.2.2.2.2.1.size) || longFs s.2.2.2.2.2.2
theorem zc2z {s:Sn} (h:longSn s=false):s.2.2.2.2.2.1.size<=30/\s.2.2.2.2.2.2.length<=61/\Short s.2.2.2.2.2.2:=by
 unfold longSn at h;rw[Bool.or_eq_false_iff,decide_eq_false_iff_not]at h;obtain⟨b,c⟩:=za8h h.2;exact⟨by omega,b,c⟩
theorem zc3a (s:Sn) (vf:Value) (w:World) (u:FlsAt w vf s.2.2.2.2.2.2) (B:s.2.2.2.2.2.1.size<=maxLen) (C:s.2.2.2.2.2.2.length<=maxLen) (r:∀f∈s.2.2.2.2.2.2,f.1.size<=maxLen/\f.2.1.size<=maxLen) :
  Calls Tryz.prog 8 #[snV s vf] w fun e w'=>e= .returned (.int .i64 (if longSn s then 1 else 0))/\BL w w':=by
 have d:=fun W (c:BL w W)=>za8i vf s.2.2.2.2.2.2 W (u.below c) C r;generalize t:(if longSn s then (1:Int) else 0)=R;have g:30<s.2.2.2.2.2.1.size->R=1:=fun e=>by rw[<-t,if_pos];unfold longSn;simp[e]
 have i:¬30<s.2.2.2.2.2.1.size->R=if longFs s.2.2.2.2.2.2 then 1 else 0:=fun e=>by rw[<-t];unfold longSn;simp[e]
 unfold maxLen at B;obtain⟨q,l,rfl⟩:=u.form;clear t u r;obtain⟨v,m,n,o,p,j,y⟩:=s;unfold snV;dsimp only at *;generalize (if longFs y then (1:Int) else 0)=E at *;generalize y.length=L at *;have b:BL w (w.alloc (.cells #[.int .i64 v,.int .i64 m,.int .i64 n,.int .i64 o,.int .i64 p,.string j,.slice q L l] 25)):=alB _ _;by_cases c:30<j.size
 ·obtain rfl:=g c;have A:(30:Int)<(j.size:Int):=by omega
  clear g i d c
  go_enter Tryz.func8,Tryz.ntmps8
  go_wp2;go_ret;exact⟨rfl,b⟩
 ·obtain rfl:=i c;have A:¬(30:Int)<(j.size:Int):=by omega
  have k:=d _ b;clear g i d c
  go_enter Tryz.func8,Tryz.ntmps8
  go_wp2_with fail
  generalize w.alloc (.cells #[.int .i64 v,.int .i64 m,.int .i64 n,.int .i64 o,.int .i64 p,.string j,.slice q L l] 25)=F at b k ⊢;refine k.mono ?_;rintro e D ⟨rfl,z⟩;go_wp2;go_ret;exact⟨rfl,(trB b z)⟩
theorem zc3b (s:Sn) (vf:Value) (w:World) (M:FlsAt w vf s.2.2.2.2.2.2) (Q:s.2.2.2.2.2.2.length<=1000) :
  Calls Tryz.prog 15 #[snV s vf] w fun e w'=> ∃v',e= .returned (snV s v')/\FlsAt w' v' s.2.2.2.2.2.2/\BL w w':=by
 have G:=fun W (hb:BL w W)=>za5d vf s.2.2.2.2.2.2 W (M.below hb) Q;obtain⟨q,u,rfl⟩:=M.form;clear M;obtain⟨m,c,d,f,g,n,b⟩:=s;unfold snV;dsimp only at *;have o:BL w ((w.alloc (.cells #[.int .i64 m,.int .i64 c,.int .i64 d,.int .i64 f,.int .i64 g,.string n,.slice q b.length u] 25)).alloc (.cells #[.int .i64 0,.int .i64 0,.int .i64 0,.int .i64 0,.int .i64 0,.string ⟨#[]⟩,.slice none 0 0] 25)):=(alB _ _).alloc (by simp) _;have p:SnAt ((w.alloc (.cells #[.int .i64 m,.int .i64 c,.int .i64 d,.int .i64 f,.int .i64 g,.string n,.slice q b.length u] 25)).alloc (.cells #[.int .i64 0,.int .i64 0,.int .i64 0,.int .i64 0,.int .i64 0,.string ⟨#[]⟩,.slice none 0 0] 25)) w.heap.size (m,c,d,f,g,n,b) (.slice q b.length u):=heap_alloc2_old w _ _;have F:SnAt ((w.alloc (.cells #[.int .i64 m,.int .i64 c,.int .i64 d,.int .i64 f,.int .i64 g,.string n,.slice q b.length u] 25)).alloc (.cells #[.int .i64 0,.int .i64 0,.int .i64 0,.int .i64 0,.int .i64 0,.string ⟨#[]⟩,.slice none 0 0] 25)) (w.heap.size+1) zeroS (.slice none 0 0):=heap_alloc2_new w _ _;have y:=G _ o;clear G;obtain⟨L,K⟩:∃L,b.length=L:=⟨_,rfl⟩;have R:Hid (b.length=L):=K;rw[K]at o p F y Q ⊢;clear K
 go_enter Tryz.func15,Tryz.ntmps15
 go_upto_region 1 with fail
 generalize (w.alloc (.cells #[.int .i64 m,.int .i64 c,.int .i64 d,.int .i64 f,.int .i64 g,.string n,.slice q L u] 25)).alloc (.cells #[.int .i64 0,.int .i64 0,.int .i64 0,.int .i64 0,.int .i64 0,.string ⟨#[]⟩,.slice none 0 0] 25)=WA at o p F y ⊢;have S:=p.cells.2.2.2.2.2.2
 go_wp2_with fail
 refine y.mono ?_;rintro e E ⟨v',rfl,P,B⟩;clear y S;have z:FlsAt E v' b:=(zd3 P).1;have H:BL w E:=trB o B;have r:=p.below B;have I:=F.below B;clear p F B o P;obtain⟨k,l,V⟩:=z.form;subst V;have J:=zn0 r z;have t:=z.set_off J 6 (.slice k b.length l);have A:SnAt (E.setCell ⟨w.heap.size,6,none⟩ (.slice k b.length l)) w.heap.size (m,c,d,f,g,n,b) (.slice k b.length l):=by
  have:=r;unfold SnAt at *;rw[heap_setCell_same _ _ _ _ _ _ this];rfl
 have j:=zb8y I (show w.heap.size≠w.heap.size+1 by omega) 6 (.slice k b.length l);have C:BL w (E.setCell ⟨w.heap.size,6,none⟩ (.slice k b.length l)):=H.setCell (Nat.le_refl _) _;have T:=r.fz;have U:=r.cells.2.2.2.2.2.2;clear r I z H J;rw[R.out]at t A j C ⊢
 go_upto_region 2 with fail
 generalize E.setCell ⟨w.heap.size,6,none⟩ (.slice k L l)=w2 at t A j C ⊢;clear T U;obtain⟨X,Y,Z,p3,p4,p5,p6⟩:=A.cells;dsimp only at X Y Z p3 p4 p5;have i:=zn0 j t;have N:w.heap.size<=w.heap.size+1:=Nat.le_succ _;have fz:=j.fz;obtain⟨y0,y1,y2,y3,y4,y5,y6⟩:=j.cells;have O:=(((((((t.set_off i 0 (.int .i64 m)).set_off i 1 (.int .i64 c)).set_off i 2 (.int .i64 d)).set_off i 3 (.int .i64 f)).set_off i 4 (.int .i64 g)).set_off i 5 (.string n)).set_off i 6 (.slice k L l));obtain⟨u0,u1,u2,u3,u4,u5,u6⟩:=(j.set (m,c,d,f,g,n,b) (.slice k L l)).cells;have D:=zb8x (s:=(m,c,d,f,g,n,b)) (vf:=.slice k L l) C N;unfold snSet at u0 u1 u2 u3 u4 u5 u6 D;dsimp only at u0 u1 u2 u3 u4 u5 D y0 y1 y2 y3 y4 y5;clear j A t i;go_wp2;refine bodyPost_ret (v:=.agg #[.int .i64 m,.int .i64 c,.int .i64 d,.int .i64 f,.int .i64 g,.string n,.slice k L l]) (by simp[results,Tryz.results15,go_sem,u0,u1,u2,u3,u4,u5,u6]) rfl ?_;exact⟨.slice k L l,rfl,O,D⟩
def snapT (l:List Pc) (s:Sn):Sn:=if s.2.2.2.2.2.2= [] then (s.1,s.2.1,s.2.2.1,s.2.2.2.1,s.2.2.2.2.1,s.2.2.2.2.2.1,(tabT l).1) else s
theorem za8m {l:List Pc} (h:pcsLong l=false):TabOk (tabT l) l.length/\l.length<=15/\TabX (tabT l) l.length:=by
 unfold pcsLong at h;rw[Bool.or_eq_false_iff,decide_eq_false_iff_not]at h;have b:∀p∈l,pcLong p=false:=fun p b=>by
  have:=List.any_eq_false.1 h.2 p b;simpa using this
 have c:l.length<=15:=by omega
 have d:=zs4 b l.length (Nat.le_refl _);have f:=tabX b c l.length (Nat.le_refl _);rw[List.take_length]at d f;exact⟨d,c,f⟩
theorem zc3c {l:List Pc} (h:pcsLong l=false):(tabT l).1.length<=15/\Short (tabT l).1:=by
 obtain⟨b,c,-⟩:=za8m h;exact⟨Nat.le_trans b.many c,fun g hg=>by have:=b.size g hg;omega⟩
theorem zc3d {l:List Pc} {s:Sn} (h:pcsLong l=false) (d:longSn s=false):(snapT l s).2.2.2.2.2.2.length<=100/\Short (snapT l s).2.2.2.2.2.2:=by
 unfold snapT;split
 ·obtain⟨c,b⟩:=zc3c h;exact⟨by dsimp only;omega,b⟩
 ·obtain⟨_,c,b⟩:=zc2z d;exact⟨by omega,b⟩
structure ScI (EM:World->Prop) (SAt:World->Value->(Nat->Prop)->St->Prop) (w W:World) (v:Value) (FP:Nat->Prop) (st:St) (sb:Nat) (s:Sn) (vf:Value):Prop where
 ok:SOk (upE EM w.heap.size) SAt w.heap.size w W v FP st
 off:¬FP sb
 le:w.heap.size<=sb
 snap:SnAt W sb s vf
 files:FlsAt W vf s.2.2.2.2.2.2
section
variable {a : Nat → Addr} {B : Nat} {EM : World → Prop} {SAt : World → Value → (Nat → Prop) → St → Prop}
theorem SOk.but {w W d:World} {v:Value} {c P:Nat->Prop} {f:St} (K:StoreK a w.heap.size (upE EM w.heap.size) SAt) (h:SOk (upE EM w.heap.size) SAt w.heap.size w W v c f) (g:But P W d) (i:∀k,P k->w.heap.size<=k) (j:∀k,c k->¬P k):SOk (upE EM w.heap.size) SAt w.heap.size w d v c f:=by
 have b:=g.below (K.size _ h.env) i;exact⟨K.below _ _ h.env b,h.frame.trans b,Nat.le_refl _,K.keep _ _ _ _ P _ h.at_ g j,h.new⟩
theorem ScI.quiet {w W c:World} {v:Value} {d:Nat->Prop} {f:St} {g:Nat} {s:Sn} {vf:Value} (K:StoreK a w.heap.size (upE EM w.heap.size) SAt) (h:ScI EM SAt w W v d f g s vf) (b:BL W c):ScI EM SAt w c v d f g s vf :=
 ⟨h.ok.quiet K b,h.off,h.le,h.snap.below b,h.files.below b⟩
theorem SnAt.set6 {W:World} {g:Nat} {i b c d f:Int} {j:ByteArray} {l gs:List Fl} {v k:Value} (h:SnAt W g (i,b,c,d,f,j,l) v):SnAt (W.setCell ⟨g,6,none⟩ k) g (i,b,c,d,f,j,gs) k:=by
 unfold SnAt at *;rw[heap_setCell_same _ _ _ _ _ _ h];rfl
theorem ScI.set {w W:World} {v:Value} {p:Nat->Prop} {r:St} {d:Nat} {s g i j l:Int} {t:ByteArray} {B gs:List Fl} {q:Option Addr} {n c:Nat} {f:Value} (K:StoreK a w.heap.size (upE EM w.heap.size) SAt) (h:SOk (upE EM w.heap.size) SAt w.heap.size w W v p r) (u:¬p d) (m:w.heap.size<=d) (y:SnAt W d (s,g,i,j,l,t,B) (.slice q n c)) (z:FlsAt W f gs):ScI EM SAt w (W.setCell ⟨d,6,none⟩ f) v p r d (s,g,i,j,l,t,gs) f:=by
 have A:But (fun k=>k=d) W (W.setCell ⟨d,6,none⟩ f):=(But.refl (fun k=>k=d) W).setCell (b:=d) (o:=6) (Or.inl rfl) _;exact⟨h.but K A (fun k e=>e▸m) (fun k hk e=>u (e▸hk)),u,m,y.set6,z.set_off (zn0 y z) 6 f⟩
theorem za8n {W:World} {b f:Nat} {y:St} {s:Sn} {q:Option Addr} {n c:Nat} (h:MAt W b y) (A:SnAt W f s (.slice q n c)) (z:Value):MAt (W.setCell ⟨f,6,none⟩ z) b y:=by
 obtain⟨C,t,p⟩:=h;have m:But (fun k=>k=f) W (W.setCell ⟨f,6,none⟩ z):=(But.refl (fun k=>k=f) W).setCell (b:=f) (o:=6) (Or.inl rfl) _;have r:b≠f:=fun e=>by
  subst e;have B:W.heap[b]? =_:=t;have g:W.heap[b]? =_:=A;rw[B]at g;injection g with g;injection g with _ g;revert g;decide
 refine⟨C,t.but m r,?_⟩;rcases p with p | ⟨u,o,v,E,F,G⟩
 ·exact Or.inl p
 ·refine Or.inr ⟨u,o,v,E,F,fun j hj=>?_⟩;obtain⟨d,i,D⟩:=G j hj;have l:u≠f:=fun e=>by
   subst e;rw[cell_of_row _ _ _ _ _ _ A]at d i;generalize o+j*3=k at d i
   match k,d,i with
   | 0,d,_=>simp at d
   | 1,d,_=>simp at d
   | 2,d,_=>simp at d
   | 3,d,_=>simp at d
   | 4,d,_=>simp at d
   | 5,_,i=>simp at i
   | 6,d,_=>simp at d
   | k+7,d,_=>simp at d
  exact⟨m.keep l d,m.keep l i,m.keep l D⟩
theorem zc3e {w c W:World} {v:Value} {d:Nat->Prop} {m:List Fl} {s r:St} {b:Nat} {vf:Value} (h:TabI (upE EM c.heap.size) SAt c.heap.size c W v d m s r b vf) (f:BL w c):SOk (upE EM w.heap.size) SAt w.heap.size w W v d s/\(∀k,k<c.heap.size->¬d k):=by
 obtain⟨g,j,n,l,i⟩:=h.both.ok;exact⟨⟨⟨g.1,Nat.le_trans f.size g.2⟩,(trB f j),Nat.le_refl _,l,fun k hk=>Nat.le_trans f.size (i k hk)⟩,fun k hk hF=>by have:=i k hF;omega⟩
end
section
variable {P : Program} (w : World)
end
theorem zd2 {P:Program} {w w':World} {b:Array Oper} {rest:List Oper} {o:Oper} {a:Act} {Q:Exit->Act->World->Prop} (c:o.guard=none) (s x:Operand) (t:TypeId)
  (f:o.op= .call { callee:=.builtin .append,args:=#[s,x],argTypes:=#[t,t] }) (v u d:Value) (g:a.eval s=v) (i:a.eval x=u) (j:(Builtin.append_ #[t,t] o.type #[v,u]).run P w= .ok d w')
  (h:wpList P b Q rest (a.put o.dst d) w'):wpList P b Q (o :: rest) a w:=by
 refine wpList_plain c fun K hK=>?_;unfold Oper.wp execOp;simp only[f,resolve,invoke,builtin,Sem.run_bind,Sem.run_pure,Result.andThen_ok,List.map_toArray,List.map_cons,List.map_nil,g,i,j];exact hK _ _ h
theorem zc3f (g f:Fl) (b:Nat) (w:World) (a:Nat->Addr) (h:EnvN w a) (v:FlAt w b g) (D:f.1.size<=100000) :
  Calls Tryz.prog 64 #[flV f,.pointer (some ⟨b,0,none⟩)] w fun e w'=>e= .returned (.bool (olderB g f))/\BL w w':=by
 have c:BL w (w.alloc (.cells #[.string f.1,.string f.2.1,.int .i64 f.2.2.1,.int .i64 f.2.2.2.1,.int .i64 f.2.2.2.2.1,.int .i64 f.2.2.2.2.2] 43)):=alB _ _;have i:=FlAt.new w f;have d:=zh9 f (w.alloc (.cells #[.string f.1,.string f.2.1,.int .i64 f.2.2.1,.int .i64 f.2.2.2.1,.int .i64 f.2.2.2.2.1,.int .i64 f.2.2.2.2.2] 43)) a (h.below c) D;have k:=v.below c;unfold flV at d ⊢;unfold olderB;generalize goneP f.1=G at d ⊢
 go_enter Tryz.func64,Tryz.ntmps64
 go_upto_region 1 with fail
 obtain⟨z,A,B,n,o,l⟩:=f;dsimp only at *;generalize w.alloc (.cells #[.string z,.string A,.int .i64 B,.int .i64 n,.int .i64 o,.int .i64 l] 43)=H at c i d k ⊢;obtain⟨p,q,r,s,t,u,-⟩:=i.cells;dsimp only at p q r s t u
 go_wp2_with fail
 refine d.mono ?_;rintro e C ⟨rfl,j⟩;clear d p q r s t u;have y:=(i.below j).cells.2.2.2.2.2.1;have F:=(k.below j).cells.2.2.2.2.2.1;dsimp only at y;have m:BL w C:=trB c j;clear i k v c j;cases G
 ·by_cases E:l<g.2.2.2.2.2
  ·go_wp2;go_ret;exact⟨by simp,m⟩
  ·go_wp2;go_ret;exact⟨by simp,m⟩
 ·go_wp2;go_ret;exact⟨by simp,m⟩
theorem zg2 {B:Nat} {W f:World} {v:Value} {b:List ByteArray} (z:W.ownsRow B 9 1 v b.length (b.map Value.string)) (A:B<=W.heap.size) (p:ByteArray) (i:f=W.alloc (.cells #[.string p] 9)) (C:b.length<=1000) :
  ∃v' W2,(Builtin.append_ #[39,39] 39 #[v,.slice (some ⟨W.heap.size,0,none⟩) 1 1]).run Tryz.prog f= .ok v' W2/\W2.ownsRow B 9 1 v' (b++ [p]).length ((b++ [p]).map Value.string)/\But (fun k=>v.ownBlock=some k) W W2/\(v'.ownBlock=v.ownBlock\/∃k,v'.ownBlock=some k/\W.heap.size<=k/\k<W2.heap.size):=by
 obtain⟨n,o,q,r,l⟩:=Tryz.strInfo;have c:BL W f:=by rw[i];exact alB _ _
 have j:Src f (some ⟨W.heap.size,0,none⟩) 1 1 [.string p]:=by
  rw[i];exact zi9 W [.string p] 9 1 1
 obtain⟨v',W2,s,t,y,d⟩:=zf1 (P:=Tryz.prog) f B 39 39 9 n (.string ⟨#[]⟩) 1 16 Tryz.underlying39 o q r l rfl (by decide) v b.length (b.map Value.string) (za8 (P:=fun _=>False) z (But.of_below c) (fun _ _ h=>h)) (some ⟨W.heap.size,0,none⟩) 1 1 [.string p] rfl j (by intro u m;rw[List.mem_singleton]at m;subst m;rfl) (by unfold maxLen;omega) (by omega) (Nat.le_trans A c.size);have g:W2.ownsRow B 9 1 v' (b++ [p]).length ((b++ [p]).map Value.string):=by
  rw[List.length_append,List.map_append];simpa using t
 refine⟨v',W2,s,g,(But.of_below c).trans (But.grown y) (fun _ h _=>h),?_⟩;rcases d with d | d
 ·exact Or.inl d
 ·exact Or.inr ⟨_,d,c.size,(za5 g d).2.1⟩
def IdleP (w:World) (a:Nat->Addr) (fs:List Fl) (e:Ending) (w':World):Prop :=
 ∃v ev,e= .returned (.tuple #[v,ev])/\ToldE w' a ev (listE fs)/\BL w w'/\((listE fs).1≠0->v= .slice none 0 0)/\((listE fs).1=0->TsAt w' v (idleL fs))
def idleN (fs:List Fl) (n:Nat):List ByteArray:=((fs.take n).filter (idleB fs)).map (·.1)
theorem za8o {b:List Fl} {n:Nat} (h:n<b.length) (e:idleB b b[n]=true):idleN b (n+1)=idleN b n++ [b[n].1]:=by
 unfold idleN;rw[List.take_succ_eq_append_getElem h,List.filter_append,List.map_append];simp[e]
theorem za8p {b:List Fl} {n:Nat} (h:n<b.length) (e:idleB b b[n]=false):idleN b (n+1)=idleN b n:=by
 unfold idleN;rw[List.take_succ_eq_append_getElem h,List.filter_append,List.map_append];simp[e]
theorem za8q (b:List Fl) (n:Nat):(idleN b n).length<=b.length:=by
 unfold idleN;rw[List.length_map];have c:=List.length_filter_le (idleB b) (b.take n);have d:=List.length_take_le n b;have f:=List.length_take_le' n b;omega
theorem zc3g (v:Value) (c:List Fl) (w:World) (a:Nat->Addr) (h:EnvL w a) (hx:FlsAt w v c) (hl:c.length<=100) (U:Short c) :
  Calls Tryz.prog 22 #[v] w fun e w'=>IdleP w a c e w':=by
 have eg:∀args w,(callFunc 64 args).run Tryz.prog w= .ok (.enter 64 args) w:=enters_of Tryz.func64 (by kernel_rfl) rfl;have H:=zn1 v c w a h hx hl U;have aa:Hid (∀W,BL w W->EnvN W a):=fun W i=>h.file.env.below i;have HX:Hid (∀W,BL w W->FlsAt W v c):=fun W i=>hx.below i;have ab:Hid (∀f∈c,f.1.size<=100000):=fun f hf=>by have:=(U f hf).1;omega
 have ac:Hid (∀f∈c,∀W,BL w W->Calls Tryz.prog 39 #[flV f] W fun e w'=>e= .returned (.bool (goneP f.1))/\BL W w'):=fun f hf W i=>zh9 f W a (aa.out W i) (ab.out f hf);have s:Hid (∀g b W,BL w W->FlAt W b g->Calls Tryz.prog 65 #[v,.func (.func 64) #[] #[.pointer (some ⟨b,0,none⟩)]] W fun e w'=>e= .returned (.bool (c.any (olderB g)))/\BL W w'):=fun g b W i hg=>zc2t 64 #[.pointer (some ⟨b,0,none⟩)] (olderB g) v c W (HX.out W i) (by omega) eg (fun f hf X hX=>zc3f g f b X a (aa.out X (trB i hX)) (hg.below hX) (ab.out f hf));obtain⟨q,ap,rfl⟩:=hx.form;obtain⟨L,hL⟩:∃L,c.length=L:=⟨_,rfl⟩;have HL:Hid (c.length=L):=hL;have al:L<=100:=by omega
 have ad:Hid (idleN c L=idleL c):=by
  show _=_;unfold idleN idleL;rw[<-hL,List.take_length]
 rw[hL]at H HX s ⊢;clear hx hl hL U h eg
 go_enter Tryz.func22,Tryz.ntmps22
 go_wp2_with fail
 refine H.mono ?_;rintro e w1 ⟨ev,rfl,r,S⟩;clear H;by_cases l:(listE c).1=0
 case neg =>
  have HP:Hid (IdleP w a c (.returned (.tuple #[.slice none 0 0,ev])) w1):=⟨_,_,rfl,r,S,fun _=>rfl,fun e=>absurd e l⟩;obtain⟨tt,uu,rfl⟩:=r.bad l;clear l r ad;go_wp2;refine bodyPost_ret (v:=.tuple #[.slice none 0 0,.iface tt uu]) (by simp[results,Tryz.results22,go_sem]) rfl ?_;exact HP.out
 case pos =>
 have HE:Hid ((listE c).1=0):=l;have HT:Hid (∀W,ToldE W a .nilIface (listE c)):=fun W=>by
  cases hc:listE c with
  | mk n o =>
   rw[hc]at r l;obtain rfl:n=0:=l
   cases o with
   | none=>rfl
   | some j=>exact absurd rfl r.1
 obtain rfl:=r.ok l;clear l r
 go_wp2_with fail
 go_loopw [5,16] (fun u k wr=> ∃n:Nat,n<=L/\k= .int .i64 n/\wr.ownsRow w.heap.size 9 1 u (idleN c n).length ((idleN c n).map Value.string)/\BL w wr) (fun _ k _=>L-(intOf k).toNat)
 case atStart=>exact ⟨0,by omega,rfl,World.ownsRow_nil _ _ _ _,S⟩
 case round =>
 clear S;obtain⟨n,hn,rfl,ho,i⟩:=hrel;have V:Hid (wr.ownsRow w.heap.size 9 1 u5 (idleN c n).length ((idleN c n).map Value.string)):=ho;clear ho;by_cases ah:n<L
 case neg =>
  obtain rfl:n=L:=by omega
  have ai:Hid (TsAt wr u5 (idleL c)):=by
   have Y:=zg1 V.out;rw[ad.out]at Y;exact Y
  have am:¬(n:Int)<(n:Int):=by omega
  clear V;go_wp2;refine bodyPost_ret (v:=.tuple #[u5,.nilIface]) (by simp[results,Tryz.results22,go_sem]) rfl ?_;exact⟨_,_,rfl,HT.out _,i,fun e=>absurd HE.out e,fun _=>ai.out⟩
 case pos =>
  have d:n<c.length:=by rw[HL.out];exact ah
  obtain⟨b,o,hq,hc⟩:=(HX.out wr i).cells (fun e=>by rw[e]at d;simp at d);subst hq;obtain⟨c0,c1,c2,c3,c4,c5⟩:=hc n d;have an:(n:Int)<(L:Int):=by omega
  have ao:(0:Int)<=(n:Int):=by omega
  have t:Hid (idleB c c[n]=true->idleN c (n+1)=idleN c n++ [c[n].1]):=fun e=>za8o d e;have m:Hid (idleB c c[n]=false->idleN c (n+1)=idleN c n):=fun e=>za8p d e;have aj:Hid ((idleN c n).length<=100):=by
   have Y:=za8q c n;rw[HL.out]at Y;show _<=_;omega
  have I:=ac.out c[n] (List.getElem_mem _);generalize c[n]=g at c0 c1 c2 c3 c4 c5 t m I;have J:BL wr (wr.alloc (.cells #[.string g.1,.string g.2.1,.int .i64 g.2.2.1,.int .i64 g.2.2.2.1,.int .i64 g.2.2.2.2.1,.int .i64 g.2.2.2.2.2] 43)):=alB _ _;have K:=FlAt.new wr g;have M:BL w (wr.alloc (.cells #[.string g.1,.string g.2.1,.int .i64 g.2.2.1,.int .i64 g.2.2.2.1,.int .i64 g.2.2.2.2.1,.int .i64 g.2.2.2.2.2] 43)):=trB i J;have ae:Hid ((wr.alloc (.cells #[.string g.1,.string g.2.1,.int .i64 g.2.2.1,.int .i64 g.2.2.2.1,.int .i64 g.2.2.2.2.1,.int .i64 g.2.2.2.2.2] 43)).ownsRow w.heap.size 9 1 u5 (idleN c n).length ((idleN c n).map Value.string)):=za8 (P:=fun _=>False) V.out (But.of_below J) (fun _ _ h=>h);clear hc d V J i
  go_upto_region 8 with fail
  clear c0 c1 c2 c3 c4 c5;generalize wr.alloc (.cells #[.string g.1,.string g.2.1,.int .i64 g.2.2.1,.int .i64 g.2.2.2.1,.int .i64 g.2.2.2.2.1,.int .i64 g.2.2.2.2.2] 43)=W2 at *;generalize wr.heap.size=gb at *;obtain⟨d0,d1,d2,d3,d4,d5,-⟩:=K.cells;have p:=I W2 M;unfold flV at p;clear I ac
  go_upto_region 9 with fail
  go_wp2_with fail
  refine p.mono ?_;rintro e w3 ⟨rfl,F⟩;clear p d0 d1 d2 d3 d4 d5;have y:BL w w3:=trB M F;have z:=K.below F;have N:Hid (w3.ownsRow w.heap.size 9 1 u5 (idleN c n).length ((idleN c n).map Value.string)):=za8 (P:=fun _=>False) ae.out (But.of_below F) (fun _ _ h=>h);clear ae F M K;cases T:goneP g.1
  case false =>
   have Z:Hid (idleN c (n+1)=idleN c n):=m.out (by unfold idleB;rw[T];rfl);clear T t m z s;go_wp2;go_roundw
   case rel=>exact ⟨n+1,by omega,by go_num,by rw[Z.out];exact N.out,y⟩
   case measure=>simp [intOf];omega
  case true =>
   have O:=s.out g gb w3 y z;have A:Hid (c.any (olderB g)=true->idleN c (n+1)=idleN c n):=fun e=>m.out (by unfold idleB;rw[T,e];rfl);have B:Hid (c.any (olderB g)=false->idleN c (n+1)=idleN c n++ [g.1]):=fun e=>t.out (by unfold idleB;rw[T,e];rfl);clear T t m s;generalize c.any (olderB g)=OB at O A B
   go_wp2_with fail
   refine O.mono ?_;rintro e w4 ⟨rfl,G⟩;clear O;have C:BL w w4:=trB y G;have Q:=z.below G;have D:Hid (w4.ownsRow w.heap.size 9 1 u5 (idleN c n).length ((idleN c n).map Value.string)):=za8 (P:=fun _=>False) N.out (But.of_below G) (fun _ _ h=>h);clear N G y z;cases OB
   case true =>
    have Z:=A.out rfl;have E:Hid (idleN c (n+1)=idleN c n):=Z;clear A B Z Q;go_wp2;go_roundw
    case rel=>exact ⟨n+1,by omega,by go_num,by rw[E.out];exact D.out,C⟩
    case measure=>simp [intOf];omega
   case false =>
    have E:Hid (idleN c (n+1)=idleN c n++ [g.1]):=B.out rfl;have z0:=Q.cells.1;have ag:BL w4 (w4.alloc (.cells #[.string g.1] 9)):=alB _ _;obtain⟨v',W6,hr,af,R,-⟩:=zg2 D.out C.size g.1 rfl (by have:=aj.out;omega);have ak:BL w W6:=C.trans (R.below C.size (fun k hk=>(za5 D.out hk).1));have HR:Hid (W6.ownsRow w.heap.size 9 1 v' (idleN c (n+1)).length ((idleN c (n+1)).map Value.string)):=by
     show World.ownsRow _ _ _ _ _ _ _;rw[E.out];exact af
    clear A B Q E af R ag D
    go_wp2_with (at_builtin;refine zd2 (by rfl) _ _ _ (by rfl) _ _ _ (by rfl) (by rfl) hr ?_)
    go_roundw
    case rel=>exact ⟨n+1,by omega,by go_num,HR.out,ak⟩
    case measure=>simp [intOf];omega
theorem za8r {P:Program} {b:Array Oper} {o:Oper} {a:Act} {w w':World} {K:Act->World->Prop} {Q:Exit->Act->World->Prop} {E:Prop}
  (i:o.guard=none) (s x:Operand) (t:TypeId) (d:o.op=Op.call { callee:=Callee.builtin Builtin.append,args:=#[s,x],argTypes:=#[t,t] }) (v u f:Value) (j:a.eval s=v) (k:a.eval x=u)
  (c:(Builtin.append_ #[t,t] o.type #[v,u]).run P w= .ok f w') (l:K (a.put o.dst f) w'):if Region.wanted o (yielded b a.tmps)=true then Oper.wp P o a w K Q else E:=by
 have g:Region.wanted o (yielded b a.tmps)=true:=by simp[Region.wanted,i]
 rw[if_pos g];unfold Oper.wp;simp[execOp,d,resolve,invoke,builtin,j,k,c,Result.andThen];exact l
abbrev Gp:=ByteArray×Int×List ByteArray
def fitG (f:Fl) (g:Gp):Bool:=decide (g.1=f.2.1) && decide (g.2.1+f.2.2.1<=40)
def takeG (f:Fl) (g:Gp):Gp:=(g.1,g.2.1+f.2.2.1,g.2.2++ [f.1])
def putG (f:Fl):List Gp->List Gp
 | []=> [takeG f (f.2.1,0, [])]
 | g :: r=>if fitG f g=true then takeG f g :: r else g :: putG f r
theorem za8s (f:Fl):∀ {gs:List Gp},gs.any (fitG f)=false->putG f gs=gs++ [takeG f (f.2.1,0, [])]
 | [],_=>rfl
 | g :: r,h=>by
  rw[List.any_cons,Bool.or_eq_false_iff]at h;unfold putG;rw[if_neg (by rw[h.1];simp),za8s f h.2];rfl
theorem za8t (f:Fl):∀ {gs:List Gp} {n:Nat} (h:n<gs.length),fitG f gs[n]=true->(∀j (hj:j<gs.length),j<n->fitG f gs[j]=false)->putG f gs=gs.set n (takeG f gs[n])
 | [],n,h,_,_=>by simp at h
 | g :: r,0,_,h1,_=>by
  unfold putG;rw[if_pos (show fitG f g=true from h1)];rfl
 | g :: r,n+1,h,h1,h2=>by
  have b:=h2 0 (by simp) (by omega);unfold putG;rw[if_neg (by rw[show fitG f g=false from b];simp),za8t f (n:=n) (by simpa using h) h1 (fun j hj hjn=>h2 (j+1) (by simpa using hj) (by omega))];rfl
def GrC (W:World) (gb:Nat) (g:Gp) (vp:Value):Prop:=W.heap[gb]? =some (.cells #[.string g.1,.int .i64 g.2.1,vp] 90 (0,0))
theorem GrC.lt {W:World} {b:Nat} {g:Gp} {c:Value} (h:GrC W b g c):b<W.heap.size:=lt_of_block h
theorem GrC.cells {W:World} {b:Nat} {g:Gp} {c:Value} (h:GrC W b g c):W.cell? ⟨b,0,none⟩=some (.string g.1)/\W.cell? ⟨b,1,none⟩=some (.int .i64 g.2.1)/\W.cell? ⟨b,2,none⟩=some c/\∀o,W.frozen? ⟨b,o,none⟩=false:=by
 refine⟨?_,?_,?_,fun o=>frozen_of_row _ _ _ _ _ h⟩<;>rw [cell_of_row _ _ _ _ _ _ h]<;>rfl
theorem GrC.but {P:Nat->Prop} {W c:World} {b:Nat} {g:Gp} {d:Value} (h:GrC W b g d) (f:But P W c) (i:¬P b):GrC c b g d:=(f.block b h.lt i).trans h
theorem GrC.below {W c:World} {b:Nat} {g:Gp} {d:Value} (h:GrC W b g d) (f:BL W c):GrC c b g d:=(f.block b h.lt).trans h
theorem GrC.set1 {W:World} {b:Nat} {g:Gp} {c:Value} (h:GrC W b g c) (n:Int):GrC (W.setCell ⟨b,1,none⟩ (.int .i64 n)) b (g.1,n,g.2.2) c:=by
 unfold GrC at *;rw[heap_setCell_same _ _ _ _ _ _ h];rfl
theorem GrC.set2 {W:World} {b:Nat} {g:Gp} {c:Value} (h:GrC W b g c) (v:Value) (d:List ByteArray):GrC (W.setCell ⟨b,2,none⟩ v) b (g.1,g.2.1,d) v:=by
 unfold GrC at *;rw[heap_setCell_same _ _ _ _ _ _ h];rfl
theorem zc3h (f:Fl) (g:Gp) (u:Nat) (I:Value) (w:World) (v:GrC w u g I) (N:0<=g.2.1/\g.2.1<=1000000) (O:0<=f.2.2.1/\f.2.2.1<=1000000) :
  Calls Tryz.prog 93 #[.pointer (some ⟨u,0,none⟩),flV f] w fun e w'=>e= .returned (.bool (fitG f g))/\BL w w':=by
 have b:BL w (w.alloc (.cells #[.string f.1,.string f.2.1,.int .i64 f.2.2.1,.int .i64 f.2.2.2.1,.int .i64 f.2.2.2.2.1,.int .i64 f.2.2.2.2.2] 43)):=alB _ _;have i:=FlAt.new w f;have j:=v.below b;have J:IntKind.i64.wrap (g.2.1+f.2.2.1)=g.2.1+f.2.2.1:=IntWalk.i64_in _ (by omega);have d:Hid (fitG f g=(decide (g.1=f.2.1) && decide (g.2.1+f.2.2.1<=40))):=rfl;generalize fitG f g=R at d ⊢;unfold flV
 go_enter Tryz.func93,Tryz.ntmps93
 go_upto_region 1 with fail
 obtain⟨z,p,m,s,t,q⟩:=f;obtain⟨n,r,K⟩:=g;dsimp only at *;generalize w.alloc (.cells #[.string z,.string p,.int .i64 m,.int .i64 s,.int .i64 t,.int .i64 q] 43)=M at b i j ⊢;obtain⟨A,B,C,D,E,F,-⟩:=i.cells;dsimp only at A B C D E F;obtain⟨G,H,L,-⟩:=j.cells;dsimp only at G H;clear i j v;by_cases k:n=p
 ·subst k;have y:(n.toList == n.toList)=true:=by simp
  by_cases l:r+m<=40
  ·have o:decide (r+m<=40)=true:=decide_eq_true l;have c:Hid (R=true):=by show _=_;rw[d.out,o];simp
   clear d l
   go_quiet (fail)
   go_wp2;go_ret;exact⟨by rw[c.out];rfl,za4 b _⟩
  ·have o:decide (r+m<=40)=false:=decide_eq_false l;have c:Hid (R=false):=by show _=_;rw[d.out,o];simp
   clear d l
   go_quiet (fail)
   go_wp2;go_ret;exact⟨by rw[c.out];rfl,za4 b _⟩
 ·have y:(n.toList == p.toList)=false:=neBB (fun e=>k (zc1 e));have c:Hid (R=false):=by show _=_;rw[d.out,decide_eq_false k];rfl
  clear d k
  go_quiet (fail)
  go_wp2;go_ret;exact⟨by rw[c.out];rfl,za4 b _⟩
def TakeP (B:Nat) (w:World) (gb:Nat) (vp:Value) (g:Gp) (w':World):Prop :=
 ∃v',GrC w' gb g v'/\w'.ownsRow B 9 1 v' g.2.2.length (g.2.2.map Value.string)/\But (fun k=>k=gb\/vp.ownBlock=some k) w w'/\(v'.ownBlock=vp.ownBlock\/∃k,v'.ownBlock=some k/\w.heap.size<=k/\k<w'.heap.size)
theorem za8u (B:Nat) (f:Fl) (g:Gp) (b:Nat) (l:Value) (w:World) (Y:GrC w b g l) (O:w.ownsRow B 9 1 l g.2.2.length (g.2.2.map Value.string)) (hB:B<=w.heap.size) (h1:0<=g.2.1/\g.2.1<=1000000) (h2:0<=f.2.2.1/\f.2.2.1<=1000000) (Z:g.2.2.length<=1000) :
  Calls Tryz.prog 94 #[.pointer (some ⟨b,0,none⟩),flV f] w fun e w'=>e= .returned (.tuple #[])/\TakeP B w b l (takeG f g) w':=by
 have r:BL w (w.alloc (.cells #[.string f.1,.string f.2.1,.int .i64 f.2.2.1,.int .i64 f.2.2.2.1,.int .i64 f.2.2.2.2.1,.int .i64 f.2.2.2.2.2] 43)):=alB _ _;have s:=FlAt.new w f;have t:=Y.below r;have C:=za8 (P:=fun _=>False) O (But.of_below r) (fun _ _ h=>h);have ag:IntKind.i64.wrap (g.2.1+f.2.2.1)=g.2.1+f.2.2.1:=IntWalk.i64_in _ (by omega);have ah:=Y.lt;have ai:Hid (∀k,l.ownBlock=some k->k<w.heap.size):=fun k hk=>(za5 O hk).2.1;obtain⟨qp,cp,ac⟩:=zb4 O;unfold flV takeG
 go_enter Tryz.func94,Tryz.ntmps94
 go_upto_region 1 with fail
 obtain⟨v,fq,d,U,V,J⟩:=f;obtain⟨X,i,N⟩:=g;dsimp only at *;generalize w.alloc (.cells #[.string v,.string fq,.int .i64 d,.int .i64 U,.int .i64 V,.int .i64 J] 43)=o at r s t C ⊢;obtain⟨c0,c1,c2,c3,c4,c5,-⟩:=s.cells;dsimp only at c0 c1 c2 c3 c4 c5;obtain⟨d0,d1,d2,dz⟩:=t.cells;dsimp only at d0 d1;clear Y O;have D:∀k,l.ownBlock=some k->k≠b:=fun k hk e=>by
  obtain⟨_,_,aj,hc⟩:=za5 C hk;subst e;have:=t.symm.trans hc;simp only[Option.some.injEq,Obj.cells.injEq]at this;exact absurd this.2.1 (by decide)
 have E:But (fun k=>k=b) o ((o.setCell ⟨b,1,none⟩ (.int .i64 (i+d))).drew):=by
  have h':But (fun k=>k=b) o (o.setCell ⟨b,1,none⟩ (.int .i64 (i+d))):=(But.refl (fun k=>k=b) o).setCell (Or.inl (Eq.refl b)) _;exact h'.trans (But.of_below (Below.drew (Below.refl _ _))) (fun _ h _=>h)
 have F:GrC ((o.setCell ⟨b,1,none⟩ (.int .i64 (i+d))).drew) b (X,i+d,N) l:=(t.set1 (i+d)).below (Below.drew (Below.refl _ _));have Q:=za8 C E D;have R:FlAt ((o.setCell ⟨b,1,none⟩ (.int .i64 (i+d))).drew) w.heap.size (v,fq,d,U,V,J):=(E.block w.heap.size (lt_of_block s) (by omega)).trans s;have G:Hid (But (fun k=>k=b\/l.ownBlock=some k) w ((o.setCell ⟨b,1,none⟩ (.int .i64 (i+d))).drew)):=(But.of_below r).trans (E.mono fun _ h=>Or.inl h) (fun _ h _=>h);clear E t C s
 go_region
 go_upto_region 2 with fail
 clear c0 c1 c2 c3 c4 c5 d0 d1 d2 dz r;generalize (o.setCell ⟨b,1,none⟩ (.int .i64 (i+d))).drew=p at *;have aa:B<=p.heap.size:=Nat.le_trans hB G.out.size;have m:BL p p.drew:=(Below.refl _ _).drew;have S:BL p (p.alloc (.cells #[.string v] 9)):=alB _ _;have T:=za8 (P:=fun _=>False) Q (But.of_below m) (fun _ _ h=>h);obtain⟨y,z,hr,K,L,M⟩:=zg2 T aa v rfl Z;have u:GrC z b (X,i+d,N) l:=(F.below m).but L (fun e=>D b e rfl);have af:b<z.heap.size:=u.lt;have I:∀k,y.ownBlock=some k->k≠b:=fun k hk e=>by
  rcases M with A | ⟨j,A,hj,_⟩
  ·exact D k (A.symm.trans hk) e
  ·rw[A]at hk;injection hk with hk;have h5:p.drew.heap.size=p.heap.size:=rfl;have:=F.lt;omega
 obtain⟨q',n',c',ad⟩:∃q n c,y= .slice q n c:=by
  obtain⟨q,c,h⟩:=zb4 K;exact⟨q,_,c,h⟩
 have H:But (fun k=>k=b) z (z.setCell ⟨b,2,none⟩ y):=(But.refl (fun k=>k=b) z).setCell (Or.inl (Eq.refl b)) _;have W:Hid (TakeP B w b l (X,i+d,N++ [v]) (z.setCell ⟨b,2,none⟩ y)):=by
  refine⟨y,u.set2 y (N++ [v]),za8 K H I,(G.out.trans ((But.of_below m).trans (L.mono fun _ h=>Or.inr h) (fun _ h _=>h)) (fun _ h _=>h)).trans (H.mono fun _ h=>Or.inl h) (fun _ h _=>h),?_⟩;rcases M with A | ⟨j,A,hj,ae⟩
  ·exact Or.inl A
  ·exact Or.inr ⟨j,A,Nat.le_trans G.out.size hj,Nat.lt_of_lt_of_le ae H.size⟩
 have ab:(Builtin.append_ #[39,39] 39 #[l,.slice (some ⟨p.heap.size,0,none⟩) 1 1]).run Tryz.prog (p.alloc (.cells #[.string v] 9)).drew= .ok y z:=hr;have k0:=R.cells.1;have k1:=za0 m k0;have m0:=F.cells.2.2.1;have m1:=za0 m m0;have m2:=za0 S m0;have y0:=u.cells.2.2.1;have y1:=u.cells.2.2.2;dsimp only at k0 k1;subst ad;clear hr T m S R F u Q K L M H D I G ac
 go_region_law (refine za8r (by rfl) _ _ _ (by rfl) _ _ _ (by rfl) (by rfl) ab ?_)
 all_goals go_wp2
 all_goals go_end0
 all_goals exact⟨rfl,W.out⟩
abbrev Gx:=Nat×Value×Gp
def ptG (x:Gx):Value:=.pointer (some ⟨x.1,0,none⟩)
structure GrsIn (B:Nat) (W:World) (v:Value) (xs:List Gx):Prop where
 row:W.ownsRow B 88 1 v xs.length (xs.map ptG)
 cell:∀x∈xs,GrC W x.1 x.2.2 x.2.1/\B<=x.1/\W.ownsRow B 9 1 x.2.1 x.2.2.2.2.length (x.2.2.2.2.map Value.string)
 ap:xs.Pairwise fun x y=>x.1≠y.1/\∀k,x.2.1.ownBlock=some k->y.2.1.ownBlock≠some k
theorem zb0 {W:World} {j k:Nat} {d f:Array Value} {b c:TypeId} (g:W.heap[j]? =some (.cells d b (0,0))) (i:W.heap[k]? =some (.cells f c (0,0))) (l:b≠c):j≠k:=fun e=>by
 subst e;have:=g.symm.trans i;simp only[Option.some.injEq,Obj.cells.injEq]at this;exact l this.2.1
theorem GrsIn.but {P:Nat->Prop} {B:Nat} {W c:World} {v:Value} {xs:List Gx} (h:GrsIn B W v xs) (b:But P W c) (f:∀k,v.ownBlock=some k->¬P k) (d:∀x∈xs,¬P x.1/\∀k,x.2.1.ownBlock=some k->¬P k):GrsIn B c v xs :=
 ⟨za8 h.row b f,fun x hx=>⟨(h.cell x hx).1.but b (d x hx).1,(h.cell x hx).2.1,za8 (h.cell x hx).2.2 b (d x hx).2⟩,h.ap⟩
theorem GrsIn.below {B:Nat} {W b:World} {v:Value} {xs:List Gx} (h:GrsIn B W v xs) (c:BL W b):GrsIn B b v xs :=
 h.but (But.of_below (P:=fun _=>False) c) (fun _ _ h=>h) (fun _ _=>⟨fun h=>h,fun _ _ h=>h⟩)
theorem GrsIn.nil (B:Nat) (W:World):GrsIn B W (.slice none 0 0) []:=⟨World.ownsRow_nil _ _ _ _,fun _ h=>absurd h (List.not_mem_nil),List.Pairwise.nil⟩
theorem GrsIn.at_ {B:Nat} {W:World} {q:Option Addr} {n c:Nat} {xs:List Gx} (h:GrsIn B W (.slice q n c) xs) (i:xs≠ []):∃b,q=some ⟨b,0,none⟩/\∀j (hj:j<xs.length),W.cell? ⟨b,j,none⟩=some (ptG xs[j]):=by
 rcases h.row.2 with⟨_,k⟩|⟨g,o,d,f,_,l,p,_,_,m⟩
 ·exact absurd (List.length_eq_zero_iff.1 k) i
 ·simp only[Value.slice.injEq]at f;refine⟨g,f.1,fun j hj=>?_⟩;rw[cell_of_row _ _ _ _ _ _ l];have e:(d.toList.take (xs.length*1))[j]? =(xs.map ptG)[j]? :=by rw[m]
  rw[List.getElem?_take,if_pos (by omega),Array.getElem?_toList]at e;rw[e];simp[hj]
theorem GrsIn.took {B:Nat} {W G:World} {v:Value} {xs:List Gx} (h:GrsIn B W v xs) {n:Nat} (t:n<xs.length) {g:Gp} (K:TakeP B W xs[n].1 xs[n].2.1 g G):∃v',GrsIn B G v (xs.set n (xs[n].1,v',g)):=by
 obtain⟨v',H,I,z,J⟩:=K;have m:=h.cell xs[n] (List.getElem_mem _);have c:=List.pairwise_iff_getElem.1 h.ap;have y:∀k,v.ownBlock=some k->¬(k=xs[n].1\/xs[n].2.1.ownBlock=some k):=fun k hk e=>by
  obtain⟨_,_,L,d⟩:=za5 h.row hk;rcases e with e | e
  ·exact zb0 d m.1 (by decide) e
  ·obtain⟨_,_,F,f⟩:=za5 m.2.2 e;exact zb0 d f (by decide) rfl
 have o:∀j (b:j<xs.length),j≠n->¬(xs[j].1=xs[n].1\/xs[n].2.1.ownBlock=some xs[j].1)/\∀k,xs[j].2.1.ownBlock=some k->¬(k=xs[n].1\/xs[n].2.1.ownBlock=some k):=fun j b hne=>by
  have l:=h.cell xs[j] (List.getElem_mem _);have u:xs[j].1≠xs[n].1/\∀k,xs[j].2.1.ownBlock=some k->xs[n].2.1.ownBlock≠some k:=by
   rcases Nat.lt_or_gt_of_ne hne with C | C
   ·exact c j n b t C
   ·obtain⟨q,A⟩:=c n j t b C;exact⟨fun e=>q e.symm,fun k d f=>A k f d⟩
  refine⟨fun e=>?_,fun k hk e=>?_⟩
  ·rcases e with e | e
   ·exact u.1 e
   ·obtain⟨_,_,F,f⟩:=za5 m.2.2 e;exact zb0 l.1 f (by decide) rfl
  ·rcases e with e | e
   ·obtain⟨_,_,F,f⟩:=za5 l.2.2 hk;exact zb0 m.1 f (by decide) e.symm
   ·exact u.2 k hk e
 have p:∀j (b:j<xs.length),j≠n->∀k,xs[j].2.1.ownBlock=some k->v'.ownBlock≠some k:=fun j b hne k hk e=>by
  rcases J with D | ⟨i,D,r,_⟩
  ·exact(o j b hne).2 k hk (Or.inr (D.symm.trans e))
  ·rw[D]at e;injection e with e;have:=(za5 (h.cell xs[j] (List.getElem_mem _)).2.2 hk).2.1;omega
 refine⟨v',?_,fun x hxm=>?_,?_⟩
 ·have d:(xs.set n (xs[n].1,v',g)).map ptG=xs.map ptG:=by
   apply List.ext_getElem (by simp);intro j _ _;simp only[List.getElem_map,List.getElem_set];split
   ·rename_i e;subst e;rfl
   ·rfl
  rw[d,List.length_set];exact za8 h.row z y
 ·obtain⟨j,b,rfl⟩:=List.mem_iff_getElem.1 hxm;rw[List.length_set]at b;rw[List.getElem_set];split
  ·rename_i e;exact⟨H,m.2.1,I⟩
  ·rename_i e;have l:=h.cell xs[j] (List.getElem_mem _);have E:=o j b (fun e'=>e e'.symm);exact⟨l.1.but z E.1,l.2.1,za8 l.2.2 z E.2⟩
 ·rw[List.pairwise_iff_getElem];intro i j r b s;rw[List.length_set]at r b;rw[List.getElem_set,List.getElem_set];split
  ·rename_i e;subst e;rw[if_neg (by omega)];obtain⟨q,A⟩:=c n j t b s;exact⟨q,fun k hk e=>p j b (by omega) k e hk⟩
  ·split
   ·rename_i d e;subst e;obtain⟨q,A⟩:=c i n r t s;exact⟨q,fun k hk e=>p i r (by omega) k hk e⟩
   ·exact c i j r b s
theorem Tryz.grpInfo3:(Tryz.prog.info? 88).map (fun i=>(i.zero,i.size,i.bytes))=some (some (.pointer none),1,8):=by kernel_rfl
theorem Tryz.grpInfo:∃i0:TypeInfo,Tryz.prog.info? 88=some i0/\i0.zero=some (.pointer none)/\i0.size=1/\i0.bytes=8:=by
 have h:=Tryz.grpInfo3
 cases b:Tryz.prog.info? 88 with
 | none=>rw [b]at h;simp at h
 | some i =>
  rw[b]at h;simp only[Option.map_some,Option.some.injEq,Prod.mk.injEq]at h;exact⟨i,rfl,h.1,h.2.1,h.2.2⟩
theorem GrsIn.more {B:Nat} {W d i:World} {v:Value} {xs:List Gx} (h:GrsIn B W v xs) (F:B<=W.heap.size) (g:ByteArray) (p:d=W.alloc (.cells #[.string g,.int .i64 0,.slice none 0 0] 90)) (r:i=d.alloc (.cells #[.pointer (some ⟨W.heap.size,0,none⟩)] 88)) (R:xs.length<=1000) :
  ∃v' W2,(Builtin.append_ #[84,84] 84 #[v,.slice (some ⟨W.heap.size+1,0,none⟩) 1 1]).run Tryz.prog i= .ok v' W2/\GrsIn B W2 v' (xs++ [(W.heap.size,.slice none 0 0,(g,0, []))])/\But (fun k=>v.ownBlock=some k) W W2:=by
 obtain⟨G,H,I,J,D⟩:=Tryz.grpInfo;have s:BL W d:=by rw[p];exact alB _ _
 have t:d.heap.size=W.heap.size+1:=by rw[p];simp
 have j:BL d i:=by rw[r];exact alB _ _
 have C:GrC d W.heap.size (g,0, []) (.slice none 0 0):=by rw[p];exact heap_alloc_new _ _
 have q:=C.below j;have l:=trB s j;have z:=h.below l;have A:Src i (some ⟨W.heap.size+1,0,none⟩) 1 1 [.pointer (some ⟨W.heap.size,0,none⟩)]:=by
  rw[<-t,r];exact zi9 d [.pointer (some ⟨W.heap.size,0,none⟩)] 88 1 1
 obtain⟨v',W2,K,L,M,O⟩:=zf1 (P:=Tryz.prog) i B 84 84 88 G (.pointer none) 1 8 Tryz.underlying84 H I J D rfl (by decide) v xs.length (xs.map ptG) z.row (some ⟨W.heap.size+1,0,none⟩) 1 1 [.pointer (some ⟨W.heap.size,0,none⟩)] rfl A (by intro u E;rw[List.mem_singleton]at E;subst E;rfl) (by unfold maxLen;omega) (by omega) (Nat.le_trans F l.size);have b:=But.grown M;have m:∀k,v.ownBlock=some k->∃c,i.heap[k]? =some (.cells c 88 (0,0)):=fun k hk=>(za5 z.row hk).2.2;refine⟨v',W2,K,⟨?_,fun x f=>?_,?_⟩,(But.of_below l).trans b (fun _ h _=>h)⟩
 ·rw[List.length_append,List.map_append];exact L
 ·rw[List.mem_append,List.mem_singleton]at f;rcases f with f | rfl
  ·have n:=z.cell x f;refine⟨n.1.but b (fun e=>?_),n.2.1,za8 n.2.2 b (fun k hk e=>?_)⟩
   ·obtain⟨c,o⟩:=m _ e;exact zb0 n.1 o (by decide) rfl
   ·obtain⟨c,o⟩:=m _ e;obtain⟨_,_,Q,N⟩:=za5 n.2.2 hk;exact zb0 N o (by decide) rfl
  ·refine⟨q.but b (fun e=>?_),F,World.ownsRow_nil _ _ _ _⟩;obtain⟨c,o⟩:=m _ e;exact zb0 q o (by decide) rfl
 ·rw[List.pairwise_append];refine⟨h.ap,List.pairwise_singleton _ _,fun x f y hy=>?_⟩;rw[List.mem_singleton]at hy;subst hy;refine⟨fun e=>?_,fun k _ e=>by simp[Value.ownBlock]at e⟩;have:=(h.cell x f).1.lt;omega
def GrOk (xs:List Gx):Prop:= ∀x∈xs,0<=x.2.2.2.1/\x.2.2.2.1<=1000000
theorem zc3i (f:Fl) (x:Gx) (d:Nat) (w:World) (g:FlAt w d f) (i:GrC w x.1 x.2.2 x.2.1) (j:0<=x.2.2.2.1/\x.2.2.2.1<=1000000) (k:0<=f.2.2.1/\f.2.2.1<=1000000) :
  Calls Tryz.prog 92 #[ptG x,.pointer (some ⟨d,0,none⟩)] w fun e w'=>e= .returned (.bool (fitG f x.2.2))/\BL w w':=by
 have b:=zc3h f x.2.2 x.1 x.2.1 w i j k;obtain⟨l,m,n,o,p,q,-⟩:=g.cells;unfold ptG;unfold flV at b;generalize fitG f x.2.2=R at b ⊢
 go_enter Tryz.func92,Tryz.ntmps92
 go_wp2_with fail
 refine b.mono ?_;rintro e r ⟨rfl,c⟩;clear b;go_wp2;go_ret;exact⟨rfl,c⟩
theorem zc3j (B:Nat) (f:Fl) (r:Nat) (v:Value) (xs:List Gx) (w:World) (s:GrsIn B w v xs) (N:FlAt w r f) (A:GrOk xs) (O:0<=f.2.2.1/\f.2.2.1<=1000000) (T:xs.length<=20000) :
  Calls Tryz.prog 91 #[v,.func (.func 92) #[] #[.pointer (some ⟨r,0,none⟩)]] w fun e w'=> ∃i,e= .returned (.int .i64 i)/\IdxOf (fun x:Gx=>fitG f x.2.2) xs i/\BL w w':=by
 have U:∀args w,(callFunc 92 args).run Tryz.prog w= .ok (.enter 92 args) w:=enters_of Tryz.func92 (by kernel_rfl) rfl;have C:Hid (∀x∈xs,∀W,BL w W->Calls Tryz.prog 92 #[ptG x,.pointer (some ⟨r,0,none⟩)] W fun e w'=>e= .returned (.bool (fitG f x.2.2))/\BL W w'):=fun x hxm W g=>zc3i f x r W (N.below g) ((s.cell x hxm).1.below g) (A x hxm) O;obtain⟨q,J,rfl⟩:=zb4 s.row;have t:Hid (∀W,BL w W->GrsIn B W (.slice q xs.length J) xs):=fun W g=>s.below g;obtain⟨L,E⟩:∃L,xs.length=L:=⟨_,rfl⟩;have F:Hid (xs.length=L):=E;rw[E]at T t ⊢;clear E s N A O
 go_enter Tryz.func91,Tryz.ntmps91
 go_wp2
 go_loopw [8] (fun k wr=> ∃n:Nat,n<=L/\k= .int .i64 n/\(∀j (h:j<xs.length),j<n->fitG f xs[j].2.2=false)/\BL w wr) (fun k _=>L-(intOf k).toNat)
 case atStart=>exact ⟨0,by omega,rfl,fun j h h'=>absurd h' (Nat.not_lt_zero _),Below.refl _ _⟩
 case round =>
  obtain⟨n,X,rfl,z,g⟩:=hrel;have l:Hid (∀j (h:j<xs.length),j<n->fitG f xs[j].2.2=false):=z;clear z;by_cases G:n<L
  ·have c:n<xs.length:=by rw[F.out];exact G
   obtain⟨b,Q,K⟩:=(t.out wr g).at_ (fun e=>by rw[e]at c;simp at c);subst Q;have H:=K n c;have V:(n:Int)<(L:Int):=by omega
   have P:(0:Int)<=(n:Int):=by omega
   have d:=C.out xs[n] (List.getElem_mem _) wr g;have m:Hid (fitG f xs[n].2.2=true->IdxOf (fun x:Gx=>fitG f x.2.2) xs n):=fun e=>za0t (p:=fun x:Gx=>fitG f x.2.2) l.out c e;have o:Hid (fitG f xs[n].2.2=false->∀j (h:j<xs.length),j<n+1->fitG f xs[j].2.2=false):=fun e=>za0s (p:=fun x:Gx=>fitG f x.2.2) l.out c e;generalize fitG f xs[n].2.2=R at d m o;generalize xs[n]=x at H d;unfold ptG at H d;clear K c
   go_wp2_with fail
   refine d.mono ?_;rintro e S ⟨rfl,M⟩;have u:BL w S:=trB g M;clear d;cases R
   ·have y:=o.out rfl;have I:Hid (∀j (h:j<xs.length),j<n+1->fitG f xs[j].2.2=false):=y;clear o y m;go_wp2;go_roundw
    case rel=>exact ⟨n+1,by omega,by go_num,I.out,u⟩
    case measure=>simp [intOf];omega
   ·have D:Hid (IdxOf (fun x:Gx=>fitG f x.2.2) xs n):=m.out rfl;clear o m;go_wp2;go_ret;exact⟨_,rfl,D.out,u⟩
  ·obtain rfl:n=L:=by omega
   have D:Hid (IdxOf (fun x:Gx=>fitG f x.2.2) xs (-1)):=za0u (p:=fun x:Gx=>fitG f x.2.2) (fun j hj _=>l.out j hj (by rw[<-F.out];exact hj));go_wp2;go_ret;exact⟨_,rfl,D.out,g⟩
end Go.Proofs.YtgckdomafbnmkaaGreatDoor
