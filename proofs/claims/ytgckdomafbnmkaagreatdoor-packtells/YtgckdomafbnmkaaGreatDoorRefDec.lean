/- By an AI agent. -/
import Derived.Test.YtgckdomafbnmkaaGreatDoorDataRead
import Derived.Maps.AppendAt
import Derived.Deep.Onto
set_option maxRecDepth 100000
set_option maxHeartbeats 16000000
namespace Go.Proofs.YtgckdomafbnmkaaGreatDoor
open Go.RowKit Go.Extern.Stop Go.Stop Go.Extern Go.Sort Go.Shelf Go.Lib
def strLen:Value->Nat
 | .string s=>s.size
 | _=>0
def stepE {β:Type} (k:FK β) (acc:List β) (l:List UInt8):Nat:=if (k.rd l).2≠0 then (k.rd l).2 else if acc≠ []/\k.bad (k.rd l).1 (acc.getLastD k.d)=true then 9 else 0
theorem zb3p {β:Type} (k:FK β) (l:List UInt8) (r:List (List UInt8)) (i:r≠ []) (c:Nat) (b:List β):rowsG k (l :: r) c b=if stepE k b l≠0 then ([],stepE k b l,c) else rowsG k r (c+1) (b++ [(k.rd l).1]):=by
 obtain⟨j,m,rfl⟩:=List.exists_cons_of_ne_nil i;rw[za2h];unfold stepE;by_cases f:(k.rd l).2≠0
 ·simp only[if_pos f]
 ·simp only[if_neg f];by_cases g:b≠ []/\k.bad (k.rd l).1 (b.getLastD k.d)=true
  ·simp only[if_pos g];rfl
  ·simp only[if_neg g];rfl
structure Taker {β:Type} (k:FK β) (a:Nat->Addr) (En:World->Prop) (F bl B P Q:Nat) (Inv:World->List β->Prop):Prop where
 env:∀ {W:World},En W->EnvD0 W a
 ent:∀args w,(callFunc F args).run Tryz.prog w= .ok (.enter F args) w
 low:B<=P
 keep:∀ {W W':World} {acc:List β},Inv W acc->BL W W'->Inv W' acc
 set:∀ {W:World} {acc:List β} (j o:Nat) (u:Value),P<=j->j<Q->Inv W acc->Inv (W.setCell ⟨j,o,none⟩ u) acc
 take:∀(W:World) (line:ByteArray) (acc:List β),En W->Inv W acc->Q<=W.heap.size->line.size<=100000->acc.length<=100000 ->
  Calls Tryz.prog F #[.string line,.pointer (some ⟨bl,0,none⟩)] W fun e w'=>Below B W w'/\(∀j,P<=j->j<Q->w'.heap[j]? =W.heap[j]?) /\
   ((stepE k acc line.data.toList≠0/\e= .returned (.tuple #[.int .i64 0,errV a (stepE k acc line.data.toList)])/\Inv w' acc) \/
    (stepE k acc line.data.toList=0/\e= .returned (.tuple #[.int .i64 (k.key (k.rd line.data.toList).1),.nilIface])/\Inv w' (acc++ [(k.rd line.data.toList).1])))
def FunAt (W:World) (t F bl:Nat):Prop:=W.heap[t]? =some (.cells #[.func (.func F) #[] #[.pointer (some ⟨bl,0,none⟩)]] 239 (0,0))
theorem FunAt.cell {W:World} {t F b:Nat} (h:FunAt W t F b):W.cell? ⟨t,0,none⟩=some (.func (.func F) #[] #[.pointer (some ⟨b,0,none⟩)]):=cell_of_one h
theorem FunAt.below {W b:World} {t F c:Nat} (h:FunAt W t F c) (d:BL W b):FunAt b t F c:=by
 unfold FunAt at *;exact(d.block t (lt_of_block h)).trans h
theorem zb3q {β:Type} {k:FK β} {a:Nat->Addr} {I:World->Prop} {F i B P Q:Nat} {m:World->List β->Prop} (T:Taker k a I F i B P Q m) (t g:Nat) (c:ByteArray) (b:List β) (W:World) (hE:I W) (V:m W b) (hQ:Q<=W.heap.size) (J:FunAt W t F i) (X:HeadAt W g b.length (endsZ (keysG k b))) (y:P<=t/\t<Q) (p:P<=g/\g<Q) (Y:t≠g) (hs:c.size<=100000) (Z:b.length<=100000) :
  Calls Tryz.prog 218 #[.string c,.pointer (some ⟨t,0,none⟩),.pointer (some ⟨g,0,none⟩)] W fun e w'=>Below B W w'/\FunAt w' t F i/\(∀j,P<=j->j<Q->j≠g->w'.heap[j]? =W.heap[j]?) /\
   ((stepE k b c.data.toList≠0/\e= .returned (errV a (stepE k b c.data.toList))) \/
    (stepE k b c.data.toList=0/\e= .returned .nilIface/\m w' (b++ [(k.rd c.data.toList).1])/\HeadAt w' g (b.length+1) (endsZ (keysG k (b++ [(k.rd c.data.toList).1]))))):=by
 have eg:=T.ent;have l:=T.take W c b hE V hQ hs Z;have hc:=J.cell;have K:B<=g:=Nat.le_trans T.low p.1;have z:Hid (FunAt W t F i):=J;have L:Hid (HeadAt W g b.length (endsZ (keysG k b))):=X;have r:Hid (endsZ (keysG k (b++ [(k.rd c.data.toList).1]))=endsP b.length (endsZ (keysG k b)) (k.key (k.rd c.data.toList).1)):=by
  show _=_;have:=zb3g (keysG k b) (k.key (k.rd c.data.toList).1);rw[show (keysG k b).length=b.length by simp[keysG]]at this;rw[<-this];simp[keysG]
 have D:Hid (Taker k a I F i B P Q m):=T;clear J X V T;obtain⟨E,u⟩:∃E,stepE k b c.data.toList=E:=⟨_,rfl⟩;rw[u]at l;simp only[u];clear u;obtain⟨x,G⟩:∃x,(k.rd c.data.toList).1=x:=⟨_,rfl⟩;rw[G]at l r;simp only[G];clear G;by_cases s:E=0
 ·subst s;have d:Calls Tryz.prog F #[.string c,.pointer (some ⟨i,0,none⟩)] W fun e w'=>e= .returned (.tuple #[.int .i64 (k.key x),.nilIface])/\Below B W w'/\(∀j,P<=j->j<Q->w'.heap[j]? =W.heap[j]?)/\m w' (b++ [x]):=l.mono fun e w' ⟨h1,h2,h3⟩=>by
   rcases h3 with⟨h,_⟩|⟨_,h,h'⟩
   · exact absurd rfl h
   · exact⟨h,h1,h2,h'⟩
  clear l;generalize k.key x=U at d r
  go_enter Tryz.func218,Tryz.ntmps218
  go_wp2_with (go_at_fn F;refine d.mono ?_;rintro e o ⟨rfl,v,f,C⟩)
  clear d;have n:FunAt o t F i:=by have:=z.out;unfold FunAt at *;rw[f t y.1 y.2];exact this
  have q:HeadAt o g b.length (endsZ (keysG k b)):=by have:=L.out;unfold HeadAt at *;rw[f g p.1 p.2];exact this
  have M:Hid (∀j,P<=j->j<Q->o.heap[j]? =W.heap[j]?):=f;have N:Hid (FunAt o t F i):=n;have A:=zb3j g b.length (endsZ (keysG k b)) U o q Z;have O:Hid (m o (b++ [x])):=C;have R:Hid (HeadAt o g b.length (endsZ (keysG k b))):=q;clear f n hc q C;refine A.mono ?_;rintro e w2 ⟨rfl,rfl⟩;clear A;go_wp2;go_ret;refine⟨zb3i v K,?_,fun j h1 h2 h3=>?_,Or.inr ⟨by first | rfl | trivial,rfl,?_,?_⟩⟩
  ·have:=N.out;unfold FunAt at *;rw[za3l _ _ _ _ _ Y];exact this
  ·rw[za3l _ _ _ _ _ h3];exact M.out j h1 h2
  ·exact D.out.set g 0 _ p.1 p.2 (D.out.set g 2 _ p.1 p.2 (D.out.set g 1 _ p.1 p.2 O.out))
  ·rw[r.out];exact zb3h R.out
 ·obtain⟨H,S⟩:∃H,E=H+1:=⟨E-1,by omega⟩;subst S;have d:Calls Tryz.prog F #[.string c,.pointer (some ⟨i,0,none⟩)] W fun e w'=>e= .returned (.tuple #[.int .i64 0,.iface 325 (.pointer (some (a H)))])/\Below B W w'/\(∀j,P<=j->j<Q->w'.heap[j]? =W.heap[j]?):=l.mono fun e w' ⟨h1,h2,h3⟩=>by
   rcases h3 with⟨_,h,_⟩|⟨h,_⟩
   · exact⟨h,h1,h2⟩
   · exact absurd h s
  clear l;simp only[errV]
  go_enter Tryz.func218,Tryz.ntmps218
  go_wp2_with (go_at_fn F;refine d.mono ?_;rintro e o ⟨rfl,v,f⟩)
  clear d;have n:FunAt o t F i:=by have:=z.out;unfold FunAt at *;rw[f t y.1 y.2];exact this
  go_ret;exact⟨v,n,fun j h1 h2 _=>f j h1 h2,Or.inl ⟨s,rfl⟩⟩
def LinesPost {β:Type} (k:FK β) (W:World) (a:Nat->Addr) (B P Q g:Nat) (Inv:World->List β->Prop) (R:List β×Nat×Nat) (e:Ending) (w':World):Prop :=
 Below B W w'/\(∀j,P<=j->j<Q->j≠g->w'.heap[j]? =W.heap[j]?)/\((R.2.1=0/\e= .returned .nilIface/\Inv w' R.1/\HeadAt w' g R.1.length (endsZ (keysG k R.1))) \/
  (R.2.1≠0/\∃fb,e= .returned (.iface 101 (.pointer (some ⟨fb,0,none⟩)))/\w'.cell? ⟨fb,0,none⟩=some (.int .i64 R.2.2)/\w'.cell? ⟨fb,1,none⟩=some (errV a R.2.1)))
theorem zq0 {B W w w' P Q g} (_:Below B W w) (h:∀j,P<=j->j<Q->j≠g->w.heap[j]? =W.heap[j]?) (b:Q<=w.heap.size) (c:BL w w'):∀j,P<=j->j<Q->j≠g->w'.heap[j]? =W.heap[j]? :=
 fun j h1 h2 h3=>(c.block j (Nat.lt_of_lt_of_le h2 b)).trans (h j h1 h2 h3)
theorem zb3r {β:Type} {k:FK β} {a:Nat->Addr} {En:World->Prop} {F bl B P Q:Nat} {u:World->List β->Prop} (T:Taker k a En F bl B P Q u) (t g:Nat) (p:ByteArray) (W:World) (A:∀W',Below B W W'->En W') (hI:u W []) (hQ:Q<=W.heap.size) (aj:B<=W.heap.size) (hF:FunAt W t F bl) (hH:HeadAt W g 0 (0,0)) (ht:P<=t/\t<Q) (hg:P<=g/\g<Q) (a7:t≠g) (hs:p.size<=20000) :
  Calls Tryz.prog 217 #[.string p,.func (.func 218) #[] #[.pointer (some ⟨t,0,none⟩),.pointer (some ⟨g,0,none⟩)]] W fun e w'=>LinesPost k W a B P Q g u (rowsG k (pieces 10 p.data.toList) 0 []) e w':=by
 have eg:∀args w,(callFunc 218 args).run Tryz.prog w= .ok (.enter 218 args) w:=enters_of Tryz.func218 (by kernel_rfl) rfl;obtain⟨R,hR⟩:∃R,rowsG k (pieces 10 p.data.toList) 0 []=R:=⟨_,rfl⟩;rw[hR];have HR:Hid (rowsG k (pieces 10 p.data.toList) 0 []=R):=hR;clear hR;have HT:Hid (Taker k a En F bl B P Q u):=T;have ak:HeadAt W g ([]:List β).length (endsZ (keysG k [])):=hH;clear T hH
 go_enter Tryz.func217,Tryz.ntmps217
 go_wp2
 go_loopw [0,5] (fun sv n wr=> ∃(rest:ByteArray) (b:List β),sv= .string rest/\n= .int .i64 b.length/\rest.size+b.length<=20000/\Below B W wr/\(∀j,P<=j->j<Q->j≠g->wr.heap[j]? =W.heap[j]?)/\u wr b/\FunAt wr t F bl/\HeadAt wr g b.length (endsZ (keysG k b))/\rowsG k (pieces 10 rest.data.toList) b.length b=R) (fun sv _ _=>strLen sv)
 case atStart=>exact ⟨p, [],rfl,rfl,by simpa using hs,Below.refl _ _,fun _ _ _ _=>rfl,hI,hF,ak,HR.out⟩
 case round =>
  clear hI hF ak;obtain⟨rest,b,rfl,rfl,a5,H,au,I,U,J,ah⟩:=hrel;have L:Hid (rowsG k (pieces 10 rest.data.toList) b.length b=R):=ah;have Z:Hid (∀j,P<=j->j<Q->j≠g->wr.heap[j]? =W.heap[j]?):=au;clear ah HR au;have aa:=A wr H;have al:Q<=wr.heap.size:=Nat.le_trans hQ H.size;have am:B<=wr.heap.size:=Nat.le_trans aj H.size;obtain⟨n,hn⟩:∃n,b.length=n:=⟨_,rfl⟩;have X:Hid (b.length=n):=hn;rw[hn]at a5;simp only[hn];clear hn;by_cases he:rest.size=0
  ·have ab:rest.data.toList= []:=List.length_eq_zero_iff.1 (by rw[za3];exact he);have az:(rest.toList == [])=true:=za6 ab;have c:Hid (R=(b,0,0)):=by
    show _=_;rw[<-L.out,ab];rfl
   have an:Hid (u wr b/\HeadAt wr g b.length (endsZ (keysG k b))):=⟨I,J⟩;clear ab I J U;go_wp2;go_ret;refine⟨H,Z.out,Or.inl ⟨by rw[c.out],rfl,?_,?_⟩⟩
   ·rw[c.out];exact an.out.1
   ·rw[c.out];exact an.out.2
  ·have S:rest.data.toList≠ []:=fun e=>he (by rw[<-za3,e];rfl);have az:(rest.toList == [])=false:=za7 S;obtain⟨mx,ai⟩:=(HT.out.env aa).env.maxl;have hcut:=Tryz.strings_Cut rest ⟨#[10]⟩ mx wr (by omega) ai;dsimp only at hcut;rcases zg8 10 rest.data.toList with⟨K,hc⟩|⟨i,m,hl,K,hc⟩
   ·rw[hc]at hcut;dsimp only at hcut;have c:Hid (R=([],1,n)):=by
     show _=_;rw[<-L.out,zo7 10 _ K,zu7,if_neg S,X.out]
    clear hc K S I J U;generalize (⟨rest.data.toList.toArray⟩:ByteArray)=fB at hcut
    go_wp2_with fail
    refine hcut.mono ?_;rintro e w1 ⟨rfl,q,rfl⟩;clear hcut;have l:BL wr (wr.drewN q):=za4 (Below.refl _ _) q;have d:Below B W (wr.drewN q):=H.trans (l.mono am);have v:Hid (∀j,P<=j->j<Q->j≠g->(wr.drewN q).heap[j]? =W.heap[j]?):=zq0 H Z.out al l;have ht:=(HT.out.env (A _ d)).env.text;have C:Q<=(wr.drewN q).heap.size:=Nat.le_trans hQ d.size;clear aa ai l;generalize wr.drewN q=O at d ht v C ⊢;have D:BL O (O.alloc (.cells #[.int .i64 n,.iface 325 (.pointer (some (a 0)))] 103)):=alB _ _;have G:Below B W (O.alloc (.cells #[.int .i64 n,.iface 325 (.pointer (some (a 0)))] 103)):=d.trans (D.mono (Nat.le_trans aj d.size));have a0:Hid (∀j,P<=j->j<Q->j≠g->(O.alloc (.cells #[.int .i64 n,.iface 325 (.pointer (some (a 0)))] 103)).heap[j]? =W.heap[j]?):=zq0 d v.out C D;go_wp2;go_ret;exact⟨G,a0.out,Or.inr ⟨by rw[c.out];exact Nat.one_ne_zero,O.heap.size,rfl,by rw[c.out];simp,by rw[c.out];simp[errV]⟩⟩
   ·rw[hc]at hcut;dsimp only at hcut;have ay:i.length+m.length+1=rest.size:=by rw[<-za3,hl];simp;omega
    have r:R=if stepE k b i≠0 then ([],stepE k b i,n) else rowsG k (pieces 10 m) (n+1) (b++ [(k.rd i).1]):=by
     rw[<-L.out,hl,zg7 10 i m K,zb3p k i _ (zk6 10 m),X.out]
    have eA:(⟨i.toArray⟩:ByteArray)=bytesOf i:=rfl;have eB:(⟨m.toArray⟩:ByteArray)=bytesOf m:=rfl;rw[eA,eB]at hcut;have ao:(bytesOf i).data.toList=i:=by simp[bytesOf]
    have ap:(bytesOf m).data.toList=m:=by simp[bytesOf]
    have ac:(bytesOf i).size<=100000:=by rw[zd9];omega
    have M:(bytesOf m).size+n+1<=20000/\(bytesOf m).size<rest.size:=by rw[zd9];omega
    have ad:b.length<=100000:=by rw[X.out];omega
    clear hc K S hl eA eB ay
    go_wp2_with fail
    refine hcut.mono ?_;rintro e w1 ⟨rfl,q,rfl⟩;clear hcut;have l:BL wr (wr.drewN q):=za4 (Below.refl _ _) q;have d:Below B W (wr.drewN q):=H.trans (l.mono am);have v:Hid (∀j,P<=j->j<Q->j≠g->(wr.drewN q).heap[j]? =W.heap[j]?):=zq0 H Z.out al l;have aq:=A _ d;have C:Q<=(wr.drewN q).heap.size:=Nat.le_trans hQ d.size;have ae:=HT.out.keep I l;have N:=U.below l;have af:=J.below l;clear I U J aa ai l;generalize wr.drewN q=O at d v aq C ae N af ⊢;have f:=zb3q HT.out t g (bytesOf i) b O aq ae C N af ht hg a7 ac ad;rw[ao]at f;have ag:Hid ((bytesOf m).data.toList=m):=ap;clear ae N af ao ap ad;obtain⟨E,av⟩:∃E,stepE k b i=E:=⟨_,rfl⟩;rw[av]at f r;clear av;by_cases ar:E=0
    ·subst ar;rw[if_neg (by simp)]at r;have c:Hid (rowsG k (pieces 10 m) (n+1) (b++ [(k.rd i).1])=R):=r.symm;clear r;simp only[ne_eq,not_true_eq_false,false_and,false_or,true_and]at f;generalize (k.rd i).1=x at f c;generalize bytesOf i=lA at f ac ⊢;generalize bytesOf m=lB at M ag ⊢
     go_wp2_with (go_at_fn 218;refine f.mono ?_;rintro e o ⟨G,V,s,rfl,aw,ax⟩)
     have y:Below B W o:=d.trans G;have z:Hid ((∀j,P<=j->j<Q->j≠g->o.heap[j]? =W.heap[j]?)/\u o (b++ [x])/\FunAt o t F bl/\HeadAt o g (b++ [x]).length (endsZ (keysG k (b++ [x])))) :=
      ⟨fun j h1 h2 h3=>(s j h1 h2 h3).trans (v.out j h1 h2 h3),aw,V,by rw[List.length_append];exact ax⟩
     clear s aw V ax f;go_roundw
     case rel=>exact ⟨lB,b++ [x],rfl,by rw[List.length_append,X.out];go_num,by rw[List.length_append,X.out];simp;omega,y,z.out.1,z.out.2.1,z.out.2.2.1,z.out.2.2.2,by rw[ag.out,List.length_append,X.out];exact c.out⟩
     case measure=>simp only[strLen];exact M.2
    ·rw[if_pos ar]at r;obtain⟨Y,a6⟩:∃Y,E=Y+1:=⟨E-1,by omega⟩;subst a6;have c:Hid (R=([],Y+1,n)):=r;clear r;simp only[errV,ne_eq,Nat.succ_ne_zero,not_false_eq_true,false_and,or_false,true_and]at f;generalize bytesOf i=lA at f ac ⊢;generalize bytesOf m=lB at M ag ⊢
     go_wp2_with (go_at_fn 218;refine f.mono ?_;rintro e o ⟨G,V,s,rfl⟩)
     have y:Below B W o:=d.trans G;have a1:Hid (∀j,P<=j->j<Q->j≠g->o.heap[j]? =W.heap[j]?):=fun j h1 h2 h3=>(s j h1 h2 h3).trans (v.out j h1 h2 h3);have a2:Q<=o.heap.size:=Nat.le_trans hQ y.size;have D:BL o (o.alloc (.cells #[.int .i64 n,.iface 325 (.pointer (some (a Y)))] 103)):=alB _ _;have a3:Below B W (o.alloc (.cells #[.int .i64 n,.iface 325 (.pointer (some (a Y)))] 103)):=y.trans (D.mono (Nat.le_trans aj y.size));have a4:Hid (∀j,P<=j->j<Q->j≠g->(o.alloc (.cells #[.int .i64 n,.iface 325 (.pointer (some (a Y)))] 103)).heap[j]? =W.heap[j]?):=zq0 y a1.out a2 D;clear s V f;go_wp2;go_ret;exact⟨a3,a4.out,Or.inr ⟨by rw[c.out];exact Nat.succ_ne_zero _,o.heap.size,rfl,by rw[c.out];simp,by rw[c.out];simp[errV]⟩⟩
abbrev Hd:=Int×Int×Int
def encH (x:Hd):List Value:= [.int .i64 x.1,.int .i64 x.2.1,.int .i64 x.2.2]
theorem eqHead:EqlAt Tryz.prog 293 (fun x:Hd=>.agg (encH x).toArray) (fun x y=>decide (x=y)):=by
 refine⟨fun x y w=>?_,GuardAt.agg _ (by kernel_rfl)⟩;have o:=Tryz.underlying3;have p:=Tryz.isAgg3;have q:=Tryz.sizeOf3;have b:Tryz.prog.underlying 293=some (.struct (Tryz.prog.fieldsOf 293)):=by kernel_rfl
 have c:Tryz.prog.stoodInHeld 293=false:=by kernel_rfl
 obtain⟨i,j,k⟩:=x;obtain⟨l,m,n⟩:=y;simp only[encH];rw[run_eql_struct,show (10000:Nat)=9999+1 from rfl,run_equalIn_agg w 9999 293 _ _ b c];simp only[Program.fieldsOf,Tryz.underlying293]
 go_simp
 by_cases d:i=l<;>by_cases f:j=m<;>by_cases g:k=n<;>simp [d,f,g]
theorem neqHead:NeqAt Tryz.prog 293 (fun x:Hd=>.agg (encH x).toArray) (fun x y=>decide (x=y)):=by
 refine⟨fun x y w=>?_,eqHead.2⟩;have h:=eqHead.1 x y w;simp only[encH]at h ⊢;rw[run_eql_struct]at h;rw[run_neq_struct];generalize Sem.run Tryz.prog (Op.equalIn 10000 293 _ _) w=r at h ⊢
 cases r with
 | ok b w' =>
  simp only[Result.andThen,Result.ok.injEq,Value.bool.injEq]at h ⊢;exact⟨by rw[h.1],h.2⟩
 | halt z w'=>simp [Result.andThen]at h
def AllPost {β:Type} (B:Nat) (w:World) (a:Nat->Addr) (Inv:Nat->World->List β->Prop) (D:List β×Nat×Option Nat) (e:Ending) (w':World):Prop :=
 Below B w w'/\((D.2.1=0/\e= .returned .nilIface/\∃Q,Inv Q w' D.1) \/
  (D.2.1≠0/\D.1= []/\D.2.2=none/\e= .returned (errV a D.2.1)) \/
  (D.2.1≠0/\D.1= []/\∃at_,D.2.2=some at_/\∃fb,e= .returned (.iface 101 (.pointer (some ⟨fb,0,none⟩)))/\w'.cell? ⟨fb,0,none⟩=some (.int .i64 at_)/\w'.cell? ⟨fb,1,none⟩=some (errV a D.2.1)))
theorem za3n {β:Type} (k:FK β) (kb s:ByteArray) (bp:kb.data.toList=k.word) (w:World) (a:Nat->Addr) (En:World->Prop) (F bl B:Nat) (U:Nat->World->List β->Prop) (v:B<=w.heap.size) (av:∀W',Below B w W'->En W')
  (T:∀Q,Taker k a En F bl B w.heap.size Q (U Q)) (hI:∀Q W',BL w W'->Q<=W'.heap.size->U Q W' []) (hs:s.size<=maxLen) :
  Calls Tryz.prog 191 #[.string kb,.string s,.func (.func F) #[] #[.pointer (some ⟨bl,0,none⟩)]] w fun e w'=>AllPost B w a U (readG k s.data.toList) e w':=by
 have l:∀W',Below B w W'->EnvD0 W' a:=fun W' hW=>(T 0).env (av W' hW);unfold maxLen at hs;have V:=za3 s;have m:BL w (w.alloc (.cells #[.func (.func F) #[] #[.pointer (some ⟨bl,0,none⟩)]] 239)):=alB _ _;have t:FunAt (w.alloc (.cells #[.func (.func F) #[] #[.pointer (some ⟨bl,0,none⟩)]] 239)) w.heap.size F bl:=heap_alloc_new _ _;by_cases br:20000<s.size
 ·have G:Hid (readG k s.data.toList=([],2,none)):=by show _=_;unfold readG;rw[if_pos (by omega)]
  have bh:(20000:Int)<(s.size:Int):=by omega
  have bs:=(l _ (m.mono v)).env.bound;clear V
  go_enter Tryz.func191,Tryz.ntmps191
  go_wp2;go_ret;refine⟨m.mono v,?_⟩;rw[G.out];exact Or.inr (Or.inl ⟨by simp,rfl,rfl,rfl⟩)
 ·have bh:¬(20000:Int)<(s.size:Int):=by omega
  have M:¬20000<s.data.toList.length:=by omega
  have am:=l _ (m.mono v);obtain⟨mx,J⟩:=am.env.maxl;have hcut:=Tryz.strings_Cut s ⟨#[10]⟩ mx _ (by omega) J;dsimp only at hcut;rcases zg8 10 s.data.toList with⟨au,hc⟩|⟨la,o,hl,au,hc⟩
  ·have G:Hid (readG k s.data.toList=([],1,none)):=by show _=_;unfold readG;rw[if_neg M,hc];rfl
   rw[hc]at hcut;dsimp only at hcut;have eA:(⟨s.data.toList.toArray⟩:ByteArray)=bytesOf s.data.toList:=rfl;rw[eA]at hcut;have c:=fun W (hW:Env0 W a)=>za3m kb (bytesOf s.data.toList) W a hW (by rw[zd9];omega);generalize bytesOf s.data.toList=lA at hcut c;generalize headR kb.data.toList lA.data.toList=H at c;obtain⟨⟨f,i,j⟩,z3,b0⟩:=H;dsimp only at c;clear hc au eA M V am
   go_enter Tryz.func191,Tryz.ntmps191
   go_wp2_with fail
   generalize w.alloc (.cells #[.func (.func F) #[] #[.pointer (some ⟨bl,0,none⟩)]] 239)=L at m t J hcut ⊢;refine hcut.mono ?_;rintro e w1 ⟨rfl,q,rfl⟩;clear hcut;have n:BL w (L.drewN q):=za4 m q;have d:=c _ (l _ (n.mono v)).env;clear c J t m;generalize L.drewN q=W1 at n d ⊢
   go_wp2_with fail
   refine d.mono ?_;rintro e p ⟨rfl,K⟩;clear d;have r:BL w p:=trB n K;have y:BL w (p.alloc (.cells #[.int .i64 f,.int .i64 i,.int .i64 j] 293)):=r.alloc r.size _;have ht:=(l _ (y.mono v)).env.text;go_wp2;go_ret;refine⟨y.mono v,?_⟩;rw[G.out];exact Or.inr (Or.inl ⟨by simp,rfl,rfl,rfl⟩)
  ·have aw:la.length+o.length+1=s.size:=by rw[<-za3,hl];simp;omega
   rw[hc]at hcut;dsimp only at hcut;have eA:(⟨la.toArray⟩:ByteArray)=bytesOf la:=rfl;have eB:(⟨o.toArray⟩:ByteArray)=bytesOf o:=rfl;rw[eA,eB]at hcut;have ax:(bytesOf la).data.toList=la:=by simp[bytesOf]
   have an:(bytesOf o).data.toList=o:=by simp[bytesOf]
   have c:=fun W (hW:Env0 W a)=>za3m kb (bytesOf la) W a hW (by rw[zd9];omega);rw[ax,bp]at c;have z:=fun W=>zb3b (bytesOf o) W (by rw[zd9];unfold maxLen;omega);rw[an]at z;unfold headR at c
   cases P:headO k.word la with
   | none =>
    have G:Hid (readG k s.data.toList=([],1,none)):=by show _=_;unfold readG;rw[if_neg M,hc];simp only[P];rfl
    rw[P]at c;dsimp only at c;clear hc au eA eB ax an M V z P aw hl am;generalize bytesOf la=lA at hcut c;generalize bytesOf o=lB at hcut
    go_enter Tryz.func191,Tryz.ntmps191
    go_wp2_with fail
    generalize w.alloc (.cells #[.func (.func F) #[] #[.pointer (some ⟨bl,0,none⟩)]] 239)=L at m t J hcut ⊢;refine hcut.mono ?_;rintro e w1 ⟨rfl,q,rfl⟩;clear hcut;have n:BL w (L.drewN q):=za4 m q;have d:=c _ (l _ (n.mono v)).env;clear c J t m;generalize L.drewN q=W1 at n d ⊢
    go_wp2_with fail
    refine d.mono ?_;rintro e p ⟨rfl,K⟩;clear d;have r:BL w p:=trB n K;have y:BL w (p.alloc (.cells #[.int .i64 0,.int .i64 0,.int .i64 0] 293)):=r.alloc r.size _;have ht:=(l _ (y.mono v)).env.text;go_wp2;go_ret;refine⟨y.mono v,?_⟩;rw[G.out];exact Or.inr (Or.inl ⟨by simp,rfl,rfl,rfl⟩)
   | some hd =>
    obtain⟨f,i,j,z3⟩:=hd;rw[P]at c;dsimp only at c;have hD:readG k s.data.toList=if z3≠sumL o then ([],10,none) else endG k f i j (rowsG k (pieces 10 o) 0 []):=by
     unfold readG;rw[if_neg M,hc];simp only[P];rfl
    have G:Hid (readG k s.data.toList=if z3≠sumL o then ([],10,none) else endG k f i j (rowsG k (pieces 10 o) 0 [])):=hD;have bi:=zu3 o;have ay:(bytesOf o).size<=20000:=by rw[zd9];omega
    have az:Hid (rowsG k (pieces 10 (bytesOf o).data.toList) 0 []=rowsG k (pieces 10 o) 0 []):=by show _=_;rw[an]
    generalize sumL o=S at z G bi;generalize rowsG k (pieces 10 o) 0 []=R at G az;clear hD hc au eA eB ax an M V P aw hl am;generalize bytesOf la=lA at hcut c;generalize bytesOf o=lB at hcut z ay az;have bj:Hid (∀Q,Taker k a En F bl B w.heap.size Q (U Q)):=T;have bk:Hid (∀Q W',BL w W'->Q<=W'.heap.size->U Q W' []):=hI;clear T hI
    go_enter Tryz.func191,Tryz.ntmps191
    go_wp2_with fail
    generalize w.alloc (.cells #[.func (.func F) #[] #[.pointer (some ⟨bl,0,none⟩)]] 239)=L at m t J hcut ⊢;refine hcut.mono ?_;rintro e w1 ⟨rfl,q,rfl⟩;clear hcut;have N:BL L (L.drewN q):=za4 (Below.refl _ _) q;have n:BL w (L.drewN q):=za4 m q;have X:=t.below N;have d:=c _ (l _ (n.mono v)).env;clear c J t m N;generalize L.drewN q=W1 at n d X ⊢
    go_wp2_with fail
    refine d.mono ?_;rintro e p ⟨rfl,K⟩;clear d;have r:BL w p:=trB n K;have Y:=X.below K;have a0:BL p (p.alloc (.cells #[.int .i64 f,.int .i64 i,.int .i64 j] 293)):=alB _ _;have y:BL w (p.alloc (.cells #[.int .i64 f,.int .i64 i,.int .i64 j] 293)):=r.alloc r.size _;have Z:=Y.below a0;have ac:(p.alloc (.cells #[.int .i64 f,.int .i64 i,.int .i64 j] 293)).heap[p.heap.size]? =some (.cells #[.int .i64 f,.int .i64 i,.int .i64 j] 293 (0,0)):=heap_alloc_new _ _;have aa:=z (p.alloc (.cells #[.int .i64 f,.int .i64 i,.int .i64 j] 293));have a1:w.heap.size<=p.heap.size:=r.size;have be:w.heap.size≠p.heap.size:=by have:=lt_of_block Y;omega
    clear z X Y a0
    go_wp2_with fail
    generalize bn:p.heap.size=sd at ac a1 be ⊢;generalize p.alloc (.cells #[.int .i64 f,.int .i64 i,.int .i64 j] 293)=W3 at y aa Z ac ⊢;clear bn r K n;refine aa.mono ?_;rintro e u ⟨rfl,ar⟩;clear aa;have ad:BL w u:=trB y ar;have D:=Z.below ar;have I:u.heap[sd]? =some (.cells #[.int .i64 f,.int .i64 i,.int .i64 j] 293 (0,0)):=(ar.block _ (lt_of_block ac)).trans ac;have bt:IntKind.i64.wrap (S:Int)=(S:Int):=IntWalk.i64_in _ (by omega);have bf:sd<u.heap.size:=lt_of_block I;clear Z ac y ar;by_cases a2:z3=(S:Int)
    ·have a3:Hid (readG k s.data.toList=endG k f i j R):=by show _=_;rw[G.out,if_neg (by simpa using a2)]
     clear G;subst a2;have ah:BL u (u.alloc (.cells #[.int .i64 0,.int .i64 0,.int .i64 0] 293)):=alB _ _;have O:BL w (u.alloc (.cells #[.int .i64 0,.int .i64 0,.int .i64 0] 293)):=ad.alloc ad.size _;have a7:HeadAt (u.alloc (.cells #[.int .i64 0,.int .i64 0,.int .i64 0] 293)) u.heap.size 0 (0,0):=heap_alloc_new _ _;have ao:=D.below ah;have ai:(u.alloc (.cells #[.int .i64 0,.int .i64 0,.int .i64 0] 293)).heap[sd]? =some (.cells #[.int .i64 f,.int .i64 i,.int .i64 j] 293 (0,0)):=(ah.block _ (lt_of_block I)).trans I;have bm:w.heap.size<u.heap.size:=lt_of_block D;have ae:=zb3r (bj.out (u.heap.size+1)) w.heap.size u.heap.size lB _ (fun W' hW=>av W' ((O.mono v).trans hW)) (bk.out (u.heap.size+1) _ O (by simp)) (by simp) (Nat.le_trans v O.size) ao a7 ⟨Nat.le_refl _,by omega⟩ ⟨by omega,by omega⟩ (by omega) ay;rw[az.out]at ae;clear D ao a7 ah I
     go_wp2_with fail
     generalize bo:u.heap.size=g at ae bf bm ⊢;generalize u.alloc (.cells #[.int .i64 0,.int .i64 0,.int .i64 0] 293)=W5 at O ai ae ⊢;clear bo ad;refine ae.mono ?_;rintro e w6 ⟨bb,bc,bg⟩;clear ae;have af:Below B w w6:=(O.mono v).trans bb;have ab:w6.heap[sd]? =some (.cells #[.int .i64 f,.int .i64 i,.int .i64 j] 293 (0,0)):=(bc sd a1 (by omega) (by omega)).trans ai;clear bc ai O bb;rcases bg with⟨h0,rfl,a5,a6⟩|⟨h0,fb,rfl,c0,c1⟩
     ·have ag:Hid (R.2.1=0):=h0;have a8:Hid (∃Q,U Q w6 R.1):=⟨_,a5⟩;have x0:w6.cell? ⟨sd,0,none⟩=some (.int .i64 f):=by rw[cell_of_row _ _ _ _ _ _ ab];rfl
      have x1:w6.cell? ⟨sd,1,none⟩=some (.int .i64 i):=by rw[cell_of_row _ _ _ _ _ _ ab];rfl
      have x2:w6.cell? ⟨sd,2,none⟩=some (.int .i64 j):=by rw[cell_of_row _ _ _ _ _ _ ab];rfl
      obtain⟨y0,y1,y2,_⟩:=a6.cells;have ap:=l _ af;by_cases aq:40<R.1.length
      ·have aj:(40:Int)<(R.1.length:Int):=by omega
       have C:Hid (readG k s.data.toList=([],8,none)):=by
        show _=_;rw[a3.out];unfold endG;rw[if_neg (by simpa using ag.out),if_pos aq]
       have bu:=ap.full;clear h0 a5 a6 x0 x1 x2 y1 y2 ap aq a8;generalize R.1.length=LL at aj y0;go_wp2;go_ret;refine⟨af,?_⟩;rw[C.out];exact Or.inr (Or.inl ⟨by simp,rfl,rfl,rfl⟩)
      ·have aj:¬(40:Int)<(R.1.length:Int):=by omega
       have C:Hid (readG k s.data.toList=if f=(R.1.length:Int)/\i=(endsZ (keysG k R.1)).1/\j=(endsZ (keysG k R.1)).2 then (R.1,0,none) else ([],3,none)):=by
        show _=_;rw[a3.out];unfold endG;rw[if_neg (by simpa using ag.out),if_neg aq]
       have A:=neqHead.1 ((R.1.length:Int),(endsZ (keysG k R.1)).1,(endsZ (keysG k R.1)).2) (f,i,j);simp only[encH]at A;have ak:∀(op:BinOp) (a b:Operand) (w:World),Sem.run Tryz.prog (eqGuard op 293 a b (.agg #[.int .i64 (R.1.length:Int),.int .i64 (endsZ (keysG k R.1)).1,.int .i64 (endsZ (keysG k R.1)).2]) (.agg #[.int .i64 f,.int .i64 i,.int .i64 j])) w= .ok () w:=fun op a b w=>neqHead.2 op a b ((R.1.length:Int),(endsZ (keysG k R.1)).1,(endsZ (keysG k R.1)).2) (f,i,j) w;have a9:decide ((((R.1.length:Int),(endsZ (keysG k R.1)).1,(endsZ (keysG k R.1)).2):Hd)=(f,i,j))=decide (f=(R.1.length:Int)/\i=(endsZ (keysG k R.1)).1/\j=(endsZ (keysG k R.1)).2):=by
        rw[decide_eq_decide];simp only[Prod.mk.injEq];exact⟨fun ⟨h1,h2,h3⟩=>⟨h1.symm,h2.symm,h3.symm⟩,fun ⟨h1,h2,h3⟩=>⟨h1.symm,h2.symm,h3.symm⟩⟩
       rw[a9]at A;obtain⟨bq,N⟩:∃bq,decide (f=(R.1.length:Int)/\i=(endsZ (keysG k R.1)).1/\j=(endsZ (keysG k R.1)).2)=bq:=⟨_,rfl⟩;have ba:Hid (decide (f=(R.1.length:Int)/\i=(endsZ (keysG k R.1)).1/\j=(endsZ (keysG k R.1)).2)=bq):=N;rw[N]at A;clear a9 N h0 a5 a6;generalize bd:endsZ (keysG k R.1)=E at A ak y1 y2;have bv:Hid (endsZ (keysG k R.1)=E):=bd;clear bd;obtain⟨e1,e2⟩:=E;dsimp only at A ak y1 y2;obtain⟨LL,a4⟩:∃LL,R.1.length=LL:=⟨_,rfl⟩;have bw:Hid (R.1.length=LL):=a4;rw[a4]at A ak aj y0;clear a4 aq;have bx:=ap.shape;clear ap
       cases bq with
       | true =>
        have al:Hid (readG k s.data.toList=(R.1,0,none)):=by
         show _=_;rw[C.out,if_pos (of_decide_eq_true ba.out)]
        go_wp2;go_ret;refine⟨af,?_⟩;rw[al.out];exact Or.inl ⟨rfl,rfl,a8.out⟩
       | false =>
        have al:Hid (readG k s.data.toList=([],3,none)):=by
         show _=_;rw[C.out,if_neg (of_decide_eq_false ba.out)]
        go_wp2;go_ret;refine⟨af,?_⟩;rw[al.out];exact Or.inr (Or.inl ⟨by simp,rfl,rfl,rfl⟩)
     ·have ag:Hid (R.2.1≠0):=h0;have C0:Hid (w6.cell? ⟨fb,0,none⟩=some (.int .i64 R.2.2)):=c0;have C1:Hid (w6.cell? ⟨fb,1,none⟩=some (errV a R.2.1)):=c1;have C:Hid (readG k s.data.toList=([],R.2.1,some R.2.2)):=by
       show _=_;rw[a3.out];unfold endG;rw[if_pos ag.out]
      clear h0 c0 c1 ab;go_wp2;go_ret;refine⟨af,?_⟩;rw[C.out];exact Or.inr (Or.inr ⟨ag.out,rfl,R.2.2,rfl,fb,rfl,C0.out,C1.out⟩)
    ·have C:Hid (readG k s.data.toList=([],10,none)):=by
      show _=_;rw[G.out,if_pos a2]
     have bz:=(l _ (ad.mono v)).sum;clear D I;go_wp2;go_ret;refine⟨ad.mono v,?_⟩;rw[C.out];exact Or.inr (Or.inl ⟨by simp,rfl,rfl,rfl⟩)
structure BoxR (W:World) (B bl:Nat) (v:Value) (acc:List Rw):Prop where
 box:W.heap[bl]? =some (.cells #[v] 44 (0,0))
 own:W.ownsRow B 112 3 v acc.length (flatR acc)
 off:v.ownBlock≠some bl
 low:B<=bl
structure InvR (B bl P Q:Nat) (W:World) (acc:List Rw):Prop where
 ex:∃v,BoxR W B bl v acc/\∀j,P<=j->j<Q->v.ownBlock≠some j
 lt:bl<P
 hq:Q<=W.heap.size
theorem BoxR.below {W d:World} {B c:Nat} {v:Value} {b:List Rw} (h:BoxR W B c v b) (f:BL W d):BoxR d B c v b :=
 ⟨(f.block c (lt_of_block h.box)).trans h.box,za2 h.own f,h.off,h.low⟩
theorem zb3s (b:ByteArray) (m:Nat) (W:World) (a:Nat->Addr) (h:EnvD W a) (o:b.size<=100000) (n:(readO b.data.toList).2≠0) :
  Calls Tryz.prog 194 #[.string b,.pointer (some ⟨m,0,none⟩)] W fun e w'=>e= .returned (.tuple #[.int .i64 0,errV a (readO b.data.toList).2])/\BL W w':=by
 have c:=zv8 b W a h.env (by omega);obtain⟨E,g⟩:∃E,(readO b.data.toList).2=E+1:=⟨(readO b.data.toList).2-1,by omega⟩;rw[g]at c ⊢;simp only[errV]at c ⊢;generalize (readO b.data.toList).1=x at c;obtain⟨i,j,k⟩:=x;simp only[rowV]at c;clear n g
 go_enter Tryz.func194,Tryz.ntmps194
 go_wp2_with fail
 refine c.mono ?_;rintro e l ⟨rfl,d⟩;clear c;have f:BL W (l.alloc (.cells #[.string i,.int .i64 j,.int .i64 k] 112)):=d.alloc d.size _;go_wp2;go_ret2;exact⟨rfl,f⟩
theorem zq1 {W:World} {base:Nat} {e:TypeId} {b:Nat} {v:Value} {n:Nat} {xs:List Value} (h:W.ownsRow base e b v n xs):∃q c,v= .slice q n c:=by
 rcases h.2 with⟨rfl,rfl⟩|⟨g,d,f,rfl,_⟩
 ·exact⟨none,0,rfl⟩
 ·exact⟨_,_,rfl⟩
theorem zf0 {W:World} {base:Nat} {e:TypeId} {b:Nat} {v:Value} {n:Nat} {xs:List Value} (h:W.ownsRow base e b v (n+1) xs):∃g c,v= .slice (some ⟨g,0,none⟩) (n+1) c:=by
 rcases h.2 with⟨_,i⟩|⟨g,d,f,rfl,_⟩
 ·omega
 ·exact⟨_,_,rfl⟩
theorem zq2 {W:World} {base:Nat} {e:TypeId} {b:Nat} {v:Value} {n:Nat} {xs:List Value} (h:W.ownsRow base e b v n xs) {k:Nat} (c:v.ownBlock=some k):base<=k:=(h.lt k c).1
theorem za3o (wr:World) (c:ByteArray) (d f:Int) (j:Nat) (u:Value) (b:(encR (c,d,f))[j]? =some u):(wr.alloc (.cells #[.string c,.int .i64 d,.int .i64 f] 112)).cell? ⟨wr.heap.size,j,none⟩=some u:=by
 rw[cell_of_row _ _ _ _ _ _ (heap_alloc_new _ _)]
 match j,b with
 | 0,b=>simpa [encR] using b
 | 1,b=>simpa [encR] using b
 | 2,b=>simpa [encR] using b
 | j+3,b=>simp [encR]at b
theorem zv9 {W g:World} {B b:Nat} {v d:Value} {c:List Rw} {x:Rw} (h:BoxR W B b v c) (m:g.ownsRow B 112 3 d (c.length+1) (flatR c++encR x)) (n:W.grownBy g v.ownBlock) (k:d.ownBlock=v.ownBlock\/d.ownBlock=some W.heap.size) :
  BoxR (g.setCell ⟨b,0,none⟩ d) B b d (c++ [x])/\g.heap[b]? =some (.cells #[v] 44 (0,0)):=by
 have j:=lt_of_block h.box;have i:g.heap[b]? =some (.cells #[v] 44 (0,0)):=(n.block b j (fun e=>h.off e.symm)).trans h.box;have f:d.ownBlock≠some b:=by
  rcases k with e | e
  ·rw[e];exact h.off
  ·rw[e];intro l;have:=Option.some.inj l;omega
 refine⟨⟨one_setCell i,?_,f,h.low⟩,i⟩;rw[List.length_append,zc3,zi2];exact ownsRow_setCell_other m f _
theorem za3p {l W b:World} {B c P Q:Nat} {v d:Value} {f:List Rw} {x:Rw} (h:BoxR W B c v f) (p:b.ownsRow B 112 3 d (f.length+1) (flatR f++encR x)) (m:W.grownBy b v.ownBlock) (i:d.ownBlock=v.ownBlock\/d.ownBlock=some W.heap.size)
  (n:BL l W) (g:∀j,P<=j->j<Q->v.ownBlock≠some j) (o:c<P) (q:Q<=l.heap.size) :
  InvR B c P Q (b.setCell ⟨c,0,none⟩ d) (f++ [x])/\∀j,P<=j->j<Q->(b.setCell ⟨c,0,none⟩ d).heap[j]? =l.heap[j]? :=by
 have r:Q<=W.heap.size:=Nat.le_trans q n.size;have s:W.heap.size<=b.heap.size:=m.size;refine⟨⟨⟨d,(zv9 h p m i).1,fun j h1 h2 e=>?_⟩,o,?_⟩,fun j h1 h2=>?_⟩
 ·rcases i with k | k
  ·exact g j h1 h2 (k.symm.trans e)
  ·rw[k]at e;have:=Option.some.inj e;omega
 ·have:(b.setCell ⟨c,0,none⟩ d).heap.size=b.heap.size:=by simp[World.setCell]
  omega
 ·rw[heap_setCell_other _ _ _ _ (by show j≠c;omega),m.block j (by omega) (fun e=>g j h1 h2 e.symm)];exact n.block j (by omega)
theorem zb3t (d:ByteArray) (n B:Nat) (v:Value) (W:World) (a:Nat->Addr) (h:EnvD W a) (F:BoxR W B n v []) (P Q:Nat) (L:∀j,P<=j->j<Q->v.ownBlock≠some j) (an:n<P) (hq:Q<=W.heap.size) (hs:d.size<=100000) (hr:(readO d.data.toList).2=0) :
  Calls Tryz.prog 194 #[.string d,.pointer (some ⟨n,0,none⟩)] W fun e w'=>e= .returned (.tuple #[.int .i64 (readO d.data.toList).1.2.1,.nilIface])/\InvR B n P Q w' [(readO d.data.toList).1]/\(∀j,P<=j->j<Q->w'.heap[j]? =W.heap[j]?)/\Below B W w':=by
 obtain⟨i0,ak,al,am,af⟩:=Tryz.rowInfo;have o:=zv8 d W a h.env (by omega);rw[hr]at o;simp only[errV]at o;obtain⟨x,hx⟩:∃x,(readO d.data.toList).1=x:=⟨_,rfl⟩;rw[hx]at o ⊢;clear hx hr;obtain⟨f,c,g⟩:=x;simp only[rowV]at o;have G:B<=W.heap.size:=Nat.le_trans F.low (Nat.le_of_lt (lt_of_block F.box));have ao:n<W.heap.size:=lt_of_block F.box;have A:∀k,v.ownBlock=some k->k<W.heap.size:=fun k hk=>(F.own.lt k hk).2;have Z:Hid (∀j,P<=j->j<Q->v.ownBlock≠some j):=L;have aa:Hid (∀k,v.ownBlock=some k->k<W.heap.size):=A;clear L A
 go_enter Tryz.func194,Tryz.ntmps194
 go_wp2_with fail
 refine o.mono ?_;rintro e m ⟨rfl,K⟩;clear o;have C:BL W (m.alloc (.cells #[.string f,.int .i64 c,.int .i64 g] 112)):=K.alloc K.size _;have l:=F.below C;have M:(m.alloc (.cells #[.string f,.int .i64 c,.int .i64 g] 112)).cell? ⟨m.heap.size,0,none⟩=some (.string f):=by simp
 have N:(m.alloc (.cells #[.string f,.int .i64 c,.int .i64 g] 112)).cell? ⟨m.heap.size,1,none⟩=some (.int .i64 c):=by simp
 have O:(m.alloc (.cells #[.string f,.int .i64 c,.int .i64 g] 112)).cell? ⟨m.heap.size,2,none⟩=some (.int .i64 g):=by simp
 obtain⟨q,cp,rfl⟩:=zq1 l.own;simp only[List.length_nil]at l;have V:=cell_of_one l.box;have X:=free_of_one l.box;clear F
 go_wp2_with fail
 have ab:W.heap.size<=m.heap.size:=K.size;generalize m.heap.size=T at M N O ab ⊢;generalize m.alloc (.cells #[.string f,.int .i64 c,.int .i64 g] 112)=U at C l M N O V X ⊢
 go_quiet (fail)
 have p:BL U (U.drewN nq):=za4 (Below.refl _ _) nq;have H:BL W (U.drewN nq):=trB C p;have t:=l.below p;have y0:=za0 p M;have R:=za0 p N;have y2:=za0 p O;have ac:=cell_of_one t.box;have ad:=free_of_one t.box;clear l M N O V X C p;generalize U.drewN nq=E at H t y0 R y2 ac ad ⊢;have y:BL E (E.alloc (.cells #[.string f,.int .i64 c,.int .i64 g] 112)):=alB _ _;have r:=t.below y;have I:Below B W (E.alloc (.cells #[.string f,.int .i64 c,.int .i64 g] 112)):=(trB H y).mono G
 go_wp2_with (at_builtin;refine wpList_append_own_at _ rfl _ _ 44 rfl B 112 i0 (.agg #[.string ⟨#[]⟩,.int .i64 0,.int .i64 0]) 3 32 Tryz.underlying44 ak al am af rfl (by decide) (.slice q 0 cp) 0 (flatR []) rfl r.own ⟨E.heap.size,0,none⟩ 1 1 (encR (f,c,g)) rfl ?qd1 ?qd2 ?qd3 ?qd4 ?qd5 ?qd6 ?_)
 case qd1=>rfl
 case qd2 =>
  intro j u hj;rw[Addr.add_lit,Nat.zero_add];exact za3o E f c g j u hj
 case qd3=>exact zc6 _
 case qd4=>unfold maxLen;omega
 case qd5=>omega
 case qd6=>exact Nat.le_trans G I.size
 intro v7 D i b _ z;obtain⟨S,s,rfl⟩:=zf0 i;obtain⟨ag,Y⟩:=zv9 (x:=(f,c,g)) r i b (by simpa using z);have ap:=cell_of_one Y;have aq:=free_of_one Y;have ah:Below B W D:=I.grown b (Nat.le_trans G I.size) (fun k hk=>zq2 r.own hk);have ai:Below B W (D.setCell ⟨n,0,none⟩ (.slice (some ⟨S,0,none⟩) (0+1) s)):=ah.setCell r.low _;have ae:BL W (E.alloc (.cells #[.string f,.int .i64 c,.int .i64 g] 112)):=trB H y;have J:Hid (InvR B n P Q (D.setCell ⟨n,0,none⟩ (.slice (some ⟨S,0,none⟩) (0+1) s)) ([]++ [(f,c,g)])/\∀j,P<=j->j<Q->(D.setCell ⟨n,0,none⟩ (.slice (some ⟨S,0,none⟩) (0+1) s)).heap[j]? =W.heap[j]?):=za3p (x:=(f,c,g)) r i b (by simpa using z) ae Z.out an hq;have aj:D.cell? ⟨T,1,none⟩=some (.int .i64 c):=(World.cell?_of_block (b.block T (zb8 (za0 y R)) (fun e=>by have:=aa.out T e.symm;omega))).trans (za0 y R);have ar:(D.setCell ⟨n,0,none⟩ (.slice (some ⟨S,0,none⟩) (0+1) s)).cell? ⟨T,1,none⟩=some (.int .i64 c):=by
  rw[World.cell?_setCell_other _ _ _ _ (by intro e;injection e;omega)];exact aj
 clear i b z r t ag y0 R y2;go_wp2;go_ret2;exact⟨rfl,J.out.1,J.out.2,ai⟩
theorem zb3u (f:ByteArray) (t B k:Nat) (v:Value) (b:List Rw) (W:World) (a:Nat->Addr) (h:EnvD W a) (T:BoxR W B t v b) (hs:f.size<=100000) (hl:b.length<=100000) (P Q:Nat) (af:∀j,P<=j->j<Q->v.ownBlock≠some j) (a4:t<P) (hq:Q<=W.heap.size) (K:b.length=k+1) (a5:k<b.length) (hr:(readO f.data.toList).2=0) :
  Calls Tryz.prog 194 #[.string f,.pointer (some ⟨t,0,none⟩)] W fun e w'=>(ltOf cfR (readO f.data.toList).1 b[k]=true->e= .returned (.tuple #[.int .i64 0,errV a 9])/\BL W w') /\
   (ltOf cfR (readO f.data.toList).1 b[k]=false->e= .returned (.tuple #[.int .i64 (readO f.data.toList).1.2.1,.nilIface])/\InvR B t P Q w' (b++ [(readO f.data.toList).1])/\(∀j,P<=j->j<Q->w'.heap[j]? =W.heap[j]?)/\Below B W w'):=by
 obtain⟨i0,a0,a1,a2,ar⟩:=Tryz.rowInfo;have z:=zv8 f W a h.env (by omega);rw[hr]at z;simp only[errV]at z;obtain⟨x,hx⟩:∃x,(readO f.data.toList).1=x:=⟨_,rfl⟩;rw[hx]at z;have p:=zb2c x b[k];obtain⟨lb,ac⟩:∃lb,ltOf cfR x b[k]=lb:=⟨_,rfl⟩;rw[ac]at p;have HX:Hid ((readO f.data.toList).1=x):=hx;have ag:Hid (ltOf cfR x b[k]=lb):=ac;clear hx hr ac;obtain⟨m,i,o⟩:=x;simp only[rowV]at z;have U:B<=W.heap.size:=Nat.le_trans T.low (Nat.le_of_lt (lt_of_block T.box));have a6:t<W.heap.size:=lt_of_block T.box;have L:∀k,v.ownBlock=some k->k<W.heap.size:=fun k K=>(T.own.lt k K).2;have am:Hid (∀j,P<=j->j<Q->v.ownBlock≠some j):=af;have an:Hid (∀k,v.ownBlock=some k->k<W.heap.size):=L;clear af L
 go_enter Tryz.func194,Tryz.ntmps194
 go_wp2_with fail
 refine z.mono ?_;rintro e s ⟨rfl,ae⟩;clear z;have M:BL W (s.alloc (.cells #[.string m,.int .i64 i,.int .i64 o] 112)):=ae.alloc ae.size _;have r:=T.below M;have V:(s.alloc (.cells #[.string m,.int .i64 i,.int .i64 o] 112)).cell? ⟨s.heap.size,0,none⟩=some (.string m):=by simp
 have X:(s.alloc (.cells #[.string m,.int .i64 i,.int .i64 o] 112)).cell? ⟨s.heap.size,1,none⟩=some (.int .i64 i):=by simp
 have Y:(s.alloc (.cells #[.string m,.int .i64 i,.int .i64 o] 112)).cell? ⟨s.heap.size,2,none⟩=some (.int .i64 o):=by simp
 have aw:∃g c,v= .slice (some ⟨g,0,none⟩) (k+1) c:=zf0 (n:=k) (by rw[<-K];exact r.own);obtain⟨g,cp,rfl⟩:=aw;have Z:=cell_of_one r.box;have ah:=free_of_one r.box;have ai:RowCells (s.alloc (.cells #[.string m,.int .i64 i,.int .i64 o] 112)) g 0 b:=by
  rcases (zo3 r.own).2 with⟨e,_⟩|⟨g',bb,e,hc⟩
  ·cases e
  ·injection e with e1;injection e1 with e1;injection e1 with e1;subst e1;exact hc
 obtain⟨N,O,R⟩:=ai k a5;simp only[Nat.zero_add]at N O R;generalize b[k]=y at N O R p;obtain⟨yp,yk,yv⟩:=y;dsimp only at N O R p;clear T ai;have bc:(0:Int)<(k:Int)+1:=by omega
 have bd:(k:Int)<(k:Int)+1:=by omega
 have be:(0:Int)<=(k:Int):=by omega
 have bf:IntKind.i64.wrap (k:Int)=(k:Int):=IntWalk.i64_in _ (by omega);have ao:Tryz.prog.follows .mixedOrders=true:=by kernel_rfl
 have bg:Hid (b.length=k+1):=K;have aj:Hid (b.length<=100000):=hl;clear K hl
 go_wp2_with fail
 have ap:W.heap.size<=s.heap.size:=ae.size;generalize s.heap.size=bx at V X Y ap ⊢;generalize s.alloc (.cells #[.string m,.int .i64 i,.int .i64 o] 112)=W2 at M r V X Y Z ah N O R ⊢;have D:=fun d os=>Calls.regrown_of (w:=W2) (d:=d) (os:=os) (p _);have f0:=cell_regrown V;have f1:=cell_regrown X;have f2:=cell_regrown Y;have f3:=cell_regrown Z;have f4:=cell_regrown N;have f5:=cell_regrown O;have f6:=cell_regrown R;refine wp_region_quiet_below ao (by kernel_rfl) ?_
 repeat (go_big_quiet_step (exact D _ _))
 refine wpQuiet_nil ?_;intro _ a3;obtain⟨⟨dq,ad⟩,au⟩:=a3;subst au;clear D p f0 f1 f2 f3 f4 f5 f6;have A:=below_regrown W2 dq ad;have E:BL W (grow (redrawn W2 dq) ad):=trB M A;have F:=r.below A;have y0:=za0 A V;have y1:=za0 A X;have y2:=za0 A Y;clear r V X Y Z ah M A N O R;generalize grow (redrawn W2 dq) ad=J at E F y0 y1 y2 ⊢;have a7:=cell_of_one F.box;have a8:=free_of_one F.box;cases lb
 ·have G:BL J (J.alloc (.cells #[.string m,.int .i64 i,.int .i64 o] 112)):=alB _ _;have ak:=F.below G;have aa:Below B W (J.alloc (.cells #[.string m,.int .i64 i,.int .i64 o] 112)):=(trB E G).mono U;have H:Hid (BoxR (J.alloc (.cells #[.string m,.int .i64 i,.int .i64 o] 112)) B t (.slice (some ⟨g,0,none⟩) (k+1) cp) b):=ak;clear ak F
  go_wp2_with (at_builtin;refine wpList_append_own_at _ rfl _ _ 44 rfl B 112 i0 (.agg #[.string ⟨#[]⟩,.int .i64 0,.int .i64 0]) 3 32 Tryz.underlying44 a0 a1 a2 ar rfl (by decide) (.slice (some ⟨g,0,none⟩) (k+1) cp) b.length (flatR b) rfl H.out.own ⟨J.heap.size,0,none⟩ 1 1 (encR (m,i,o)) rfl ?qd1 ?qd2 ?qd3 ?qd4 ?qd5 ?qd6 ?_)
  case qd1=>rfl
  case qd2 =>
   intro j u hj;rw[Addr.add_lit,Nat.zero_add];exact za3o J m i o j u hj
  case qd3=>exact zc6 _
  case qd4=>have:=aj.out;unfold maxLen;omega
  case qd5=>have:=aj.out;omega
  case qd6=>exact Nat.le_trans U aa.size
  intro v7 S q l _ I;obtain⟨g7,C,rfl⟩:=zf0 q;obtain⟨av,al⟩:=zv9 (x:=(m,i,o)) H.out q l (by simpa using I);have a9:=cell_of_one al;have ba:=free_of_one al;have ax:Below B W S:=aa.grown l (Nat.le_trans U aa.size) (fun k K=>zq2 H.out.own K);have ay:Below B W (S.setCell ⟨t,0,none⟩ (.slice (some ⟨g7,0,none⟩) (b.length+1) C)):=ax.setCell H.out.low _;have aq:BL W (J.alloc (.cells #[.string m,.int .i64 i,.int .i64 o] 112)):=trB E G;have ab:Hid (InvR B t P Q (S.setCell ⟨t,0,none⟩ (.slice (some ⟨g7,0,none⟩) (b.length+1) C)) (b++ [(m,i,o)])/\∀j,P<=j->j<Q->(S.setCell ⟨t,0,none⟩ (.slice (some ⟨g7,0,none⟩) (b.length+1) C)).heap[j]? =W.heap[j]?):=za3p (x:=(m,i,o)) H.out q l (by simpa using I) aq am.out a4 hq;have az:S.cell? ⟨bx,1,none⟩=some (.int .i64 i):=(World.cell?_of_block (l.block bx (zb8 (za0 G y1)) (fun e=>by have:=an.out bx e.symm;omega))).trans (za0 G y1);have bh:(S.setCell ⟨t,0,none⟩ (.slice (some ⟨g7,0,none⟩) (b.length+1) C)).cell? ⟨bx,1,none⟩=some (.int .i64 i):=by
   rw[World.cell?_setCell_other _ _ _ _ (by intro e;injection e;omega)];exact az
  clear q l I av y0 y1 y2;go_wp2;go_ret2;refine⟨fun h9=>?_,fun _=>⟨by rw[HX.out];rfl,by rw[HX.out];exact ab.out.1,ab.out.2,ay⟩⟩;rw[HX.out,ag.out]at h9;cases h9
 ·have ho:=(h.below E).order;go_wp2
  go_quiet (fail)
  go_wp2;go_ret2;refine⟨fun _=>⟨rfl,za4 E nq⟩,fun h9=>?_⟩;rw[HX.out,ag.out]at h9;cases h9
theorem InvR.keep {B c P Q:Nat} {W d:World} {b:List Rw} (h:InvR B c P Q W b) (f:BL W d):InvR B c P Q d b:=by
 obtain⟨⟨v,g,i⟩,j,k⟩:=h;exact⟨⟨v,g.below f,i⟩,j,Nat.le_trans k f.size⟩
theorem InvR.set {B d P Q:Nat} {W:World} {c:List Rw} (j o:Nat) (u:Value) (i:P<=j) (k:j<Q) (h:InvR B d P Q W c):InvR B d P Q (W.setCell ⟨j,o,none⟩ u) c:=by
 obtain⟨⟨v,b,f⟩,g,m⟩:=h;have l:(W.setCell ⟨j,o,none⟩ u).heap.size=W.heap.size:=by simp[World.setCell]
 refine⟨⟨v,⟨?_,ownsRow_setCell_other b.own (f j i k) u,b.off,b.low⟩,f⟩,g,by omega⟩;rw[heap_setCell_other _ _ _ _ (by show d≠j;omega)];exact b.box
theorem zq3 {β:Type} (b:List β) (k:Nat) (d:β) (f:b.length=k+1) (g:k<b.length):b.getLastD d=b[k]:=by
 have c:b≠ []:=by intro e;rw[e]at f;simp at f
 rw[List.getLastD_eq_getLast?,List.getLast?_eq_some_getLast c,Option.getD_some,List.getLast_eq_getElem];congr 1;omega
theorem zb3v (a:Nat->Addr) (g B P Q:Nat) (D:B<=P):Taker dataK a (fun W=>EnvD W a) 194 g B P Q (InvR B g P Q) where
 env:=fun h=>h.weak
 ent:=enters_of Tryz.func194 (by kernel_rfl) rfl
 low:=D
 keep:=fun h c=>h.keep c
 set:=fun j o u h1 h2 h=>h.set j o u h1 h2
 take:=fun W line acc hE hI hQ hs hl=>by
  have y:Hid (InvR B g P Q W acc):=hI;obtain⟨⟨v,m,z⟩,r,A⟩:=hI;have n:B<=W.heap.size:=Nat.le_trans m.low (Nat.le_of_lt (lt_of_block m.box));show Calls _ _ _ _ fun e w'=>Below B W w'/\_/\((stepE dataK acc line.data.toList≠0/\_)\/(stepE dataK acc line.data.toList=0/\_));have b:stepE dataK acc line.data.toList=if (readO line.data.toList).2≠0 then (readO line.data.toList).2 else if acc≠ []/\ltOf cfR (readO line.data.toList).1 (acc.getLastD (bytesOf [],0,0))=true then 9 else 0:=rfl;by_cases i:(readO line.data.toList).2≠0
  ·rw[if_pos i]at b;refine(zb3s line g W a hE hs i).mono fun e w' ⟨f,c⟩=>⟨c.mono n,fun j h1 h2=>c.block j (by omega),Or.inl ⟨by rw[b];exact i,by rw[f,b],y.out.keep c⟩⟩
  ·have p:(readO line.data.toList).2=0:=Classical.byContradiction i;rw[if_neg i]at b;by_cases l:acc= []
   ·subst l;rw[if_neg (by simp)]at b;exact(zb3t line g B v W a hE m P Q z r A hs p).mono fun e w' ⟨f,s,t,c⟩=>⟨c,t,Or.inr ⟨b,f,s⟩⟩
   ·obtain⟨k,C⟩:∃k,acc.length=k+1:=⟨acc.length-1,by have:=List.length_pos_iff.2 l;omega⟩;have q:k<acc.length:=by omega
    rw[zq3 acc k _ C q]at b;refine(zb3u line g B k v acc W a hE m hs hl P Q z r A C q p).mono fun e w' ⟨h1,h2⟩=>?_
    cases c:ltOf cfR (readO line.data.toList).1 acc[k] with
    | true =>
     rw[if_pos ⟨l,c⟩]at b;obtain⟨f,d⟩:=h1 c;exact⟨d.mono n,fun j q1 q2=>d.block j (by omega),Or.inl ⟨by rw[b];decide,by rw[f,b],y.out.keep d⟩⟩
    | false =>
     rw[if_neg (fun e=>by rw[c]at e;cases e.2)]at b;obtain⟨f,s,t,d⟩:=h2 c;exact⟨d,t,Or.inr ⟨b,f,s⟩⟩
def DataPost (w:World) (a:Nat->Addr) (D:List Rw×Nat×Option Nat) (e:Ending) (w':World):Prop :=
 BL w w'/\((D.2.1=0/\∃v,e= .returned (.tuple #[v,.nilIface])/\RowsAt w' v D.1) \/
  (D.2.1≠0/\D.1= []/\D.2.2=none/\e= .returned (.tuple #[.slice none 0 0,errV a D.2.1])) \/
  (D.2.1≠0/\D.1= []/\∃at_,D.2.2=some at_/\∃fb,e= .returned (.tuple #[.slice none 0 0,.iface 101 (.pointer (some ⟨fb,0,none⟩))])/\w'.cell? ⟨fb,0,none⟩=some (.int .i64 at_)/\w'.cell? ⟨fb,1,none⟩=some (errV a D.2.1)))
theorem za3q (s:ByteArray) (w:World) (a:Nat->Addr) (h:EnvD w a) (N:s.size<=maxLen) :
  Calls Tryz.prog 169 #[.string s] w fun e w'=>DataPost w a (dataO s.data.toList) e w':=by
 have d:BL w (w.alloc (.cells #[.slice none 0 0] 44)):=alB _ _;have f:BoxR (w.alloc (.cells #[.slice none 0 0] 44)) w.heap.size w.heap.size (.slice none 0 0) []:=⟨heap_alloc_new _ _,World.ownsRow_nil _ _ _ _,by simp[Value.ownBlock],Nat.le_refl _⟩;have m:(w.alloc (.cells #[.slice none 0 0] 44)).heap.size=w.heap.size+1:=by simp
 have b:=za3n dataK ⟨#[100,97,116,97]⟩ s rfl (w.alloc (.cells #[.slice none 0 0] 44)) a (fun W=>EnvD W a) 194 w.heap.size w.heap.size (fun Q=>InvR w.heap.size w.heap.size (w.heap.size+1) Q) (by omega) (fun W' hW=>h.below (d.trans hW))
  (fun Q=>by rw[m];exact zb3v a w.heap.size w.heap.size (w.heap.size+1) Q (Nat.le_succ _))
  (fun Q W' hW hQ=>⟨⟨_,f.below hW,fun j _ _=>by simp[Value.ownBlock]⟩,Nat.lt_succ_self _,hQ⟩) N
 have C:dataO s.data.toList=readG dataK s.data.toList:=rfl;rw[C];generalize readG dataK s.data.toList=D at b ⊢;clear f m C
 go_enter Tryz.func169,Tryz.ntmps169
 go_wp2_with fail
 generalize w.alloc (.cells #[.slice none 0 0] 44)=P at b d ⊢;refine b.mono ?_;rintro e l ⟨F,u⟩;clear b;have g:BL w l:=d.trans F;rcases u with⟨k,rfl,Q,y⟩|⟨k,z,A,rfl⟩|⟨k,z,p,A,B,rfl,G,H⟩
 ·obtain⟨⟨v,c,_⟩,_,_⟩:=y;have I:=cell_of_one c.box;have n:=(ze5 c.own).1;obtain⟨q,M,rfl⟩:=zq1 c.own;have o:Hid (RowsAt l (.slice q D.1.length M) D.1):=n;clear c n;obtain⟨r,i⟩:∃r,D.1.length=r:=⟨_,rfl⟩;have O:Hid (D.1.length=r):=i;rw[i]at I o;clear i;go_wp2;go_ret2;exact⟨g,Or.inl ⟨k,_,rfl,o.out⟩⟩
 ·obtain⟨E,t⟩:∃E,D.2.1=E+1:=⟨D.2.1-1,by omega⟩;have J:Hid (D.2.1=E+1):=t;rw[t];simp only[errV];clear t;go_wp2;go_ret2;exact⟨g,Or.inr (Or.inl ⟨k,z,A,by rw[J.out];rfl⟩)⟩
 ·have K:Hid (l.cell? ⟨B,0,none⟩=some (.int .i64 p)):=G;have L:Hid (l.cell? ⟨B,1,none⟩=some (errV a D.2.1)):=H;clear G H;go_wp2;go_ret2;exact⟨g,Or.inr (Or.inr ⟨k,z,p,A,B,rfl,K.out,L.out⟩)⟩
end Go.Proofs.YtgckdomafbnmkaaGreatDoor
namespace Go.Proofs.YtgckdomafbnmkaaGreatDoor
open Go Go.Lib
theorem zw0 {c:UInt8} {d:Nat} (h:digitVal c=some d):d<10/\c=UInt8.ofNat (48+d):=by
 unfold digitVal at h;split at h
 ·rename_i b;have e:=Option.some.inj h;refine⟨by omega,?_⟩;apply UInt8.toNat_inj.1;rw[UInt8.toNat_ofNat'];omega
 ·cases h
theorem zw1:decDigits 0= [48]:=by rw[decDigits,dif_pos (by omega)];rfl
theorem za3r {l r:List UInt8} (h:l≠ []):(l++r).head? =l.head? :=by
 cases l with
 | nil=>exact absurd rfl h
 | cons a l=>rfl
theorem za3s (u:Nat) (h:1<=u):(decDigits u).head? ≠some 48:=by
 induction u using Nat.strongRecOn with
 | _ u ih =>
  rw[decDigits];by_cases b:u<10
  ·rw[dif_pos b];intro e;simp only[List.head?_cons,Option.some.injEq]at e;have:=congrArg UInt8.toNat e;rw[UInt8.toNat_ofNat']at this;simp at this;omega
  ·rw[dif_neg b,za3r (zo6 _)];exact ih (u / 10) (by omega) (by omega)
theorem za3t:∀(k:Nat) (l:List UInt8) (m:Nat),l.length=k->l≠ []->(l.head? =some 48->l.length=1)->decFrom 0 l=some m->decDigits m=l:=by
 intro k
 induction k with
 | zero=>intro l m n f;exact absurd (List.length_eq_zero_iff.1 n) f
 | succ k ih =>
  intro l m n f t h;obtain⟨r,c,rfl⟩:∃r c,l=r++ [c]:=⟨l.dropLast,l.getLast f,(List.dropLast_concat_getLast f).symm⟩;rw[zt8]at h;by_cases i:r= []
  ·subst i;simp only[decFrom,Option.bind_some]at h
   cases b:digitVal c with
   | none=>rw [b]at h;cases h
   | some d =>
    rw[b]at h;obtain⟨s,rfl⟩:=zw0 b;simp at h;subst h;rw[decDigits,dif_pos s];rfl
  ·cases o:decFrom 0 r with
   | none=>rw [o]at h;cases h
   | some q =>
    rw[o]at h;simp only[Option.bind_some,decFrom]at h;have p:r.length=k:=by simp at n;omega
    have u:1<=r.length:=List.length_pos_iff.2 i;rw[za3r i]at t;have g:r.head? ≠some 48:=fun e=>by have:=t e;rw[List.length_append,List.length_singleton]at this;omega
    have j:=ih r q p i (fun e=>absurd e g) o;have v:1<=q:=by
     rcases Nat.eq_zero_or_pos q with e | e
     ·subst e;rw[zw1]at j;rw[<-j]at g;exact absurd rfl g
     ·exact e
    cases b:digitVal c with
    | none=>rw [b]at h;cases h
    | some d =>
     rw[b]at h;obtain⟨s,rfl⟩:=zw0 b;have h:=Option.some.inj h;subst h;rw[decDigits,dif_neg (by omega),show (q*10+d) / 10=q by omega,show (q*10+d) % 10=d by omega,j]
def digsOf (s:List UInt8):List UInt8:=if s.head? =some 45 then s.tail else s
def numP (s:List UInt8):Option Int :=
 if (digsOf s).length<1\/11<s.length then none
 else if (digsOf s).head? =some 48/\1<s.length then none
 else (decFrom 0 (digsOf s)).map fun (m:Nat)=>if (digsOf s).length<s.length then -(m:Int) else (m:Int)
theorem za3u (s:List UInt8):numP s=numO s:=by
 unfold numP numO;by_cases k:s.length<=11
 ·rw[if_pos k]
  cases s with
  | nil=>simp [digsOf,atoi]
  | cons b r =>
   by_cases l:b=45
   ·subst l;have n:digsOf (45 :: r)=r:=by simp[digsOf]
    rw[n];have d:atoi (45 :: r)=(decNat r).map fun (m:Nat)=> -(m:Int):=by simp[atoi]
    rw[d];unfold decNat;by_cases g:r= []
    ·subst g;simp
    ·have y:1<=r.length:=List.length_pos_iff.2 g;rw[if_neg (show ¬(r.length<1\/11<(45 :: r).length) by omega),if_neg (show ¬r.isEmpty=true by simp[g])]
     cases i:decFrom 0 r with
     | none=>simp
     | some m =>
      simp only[Option.map_some];by_cases c:r.head? =some 48
      ·rw[if_pos ⟨c,by simp;omega⟩];rw[if_neg];intro e;unfold itoa at e;by_cases j: -(m:Int)<0
       ·rw[if_pos j]at e;have p:=(List.cons.inj e).2;rw[show (-(m:Int)).natAbs=m by omega]at p;exact za3s m (by omega) (by rw[p];exact c)
       ·rw[if_neg j]at e;have:=zf5 (-(m:Int)).toNat 45 (by rw[e];exact List.mem_cons_self);simp at this
      ·rw[if_neg (fun h=>c h.1)];have f:=za3t _ r m rfl g (fun e=>absurd e c) i;have z:1<=m:=by
        rcases Nat.eq_zero_or_pos m with e | e
        ·subst e;rw[zw1]at f;rw[<-f]at c;exact absurd rfl c
        ·exact e
       rw[if_pos (by simp)];rw[if_pos];unfold itoa;rw[if_pos (by omega),show (-(m:Int)).natAbs=m by omega,f]
   ·have n:digsOf (b :: r)=b :: r:=by simp[digsOf,l]
    rw[n];by_cases q:b=43
    ·subst q;have d:atoi (43 :: r)=(decNat r).map fun (m:Nat)=>(m:Int):=by simp[atoi]
     rw[d];have u:decFrom 0 (43 :: r)=none:=by
      unfold decFrom;have:digitVal 43=none:=by decide
      rw[this]
     rw[u]
     cases i:decNat r with
     | none=>simp
     | some m =>
      simp only[Option.map_some];have:¬itoa (m:Int)=43 :: r:=by
       intro e;unfold itoa at e;rw[if_neg (by omega)]at e;have:=zf5 (m:Int).toNat 43 (by rw[e];exact List.mem_cons_self);simp at this
      rw[if_neg this];simp
    ·have d:atoi (b :: r)=(decNat (b :: r)).map fun (m:Nat)=>(m:Int):=by simp[atoi,l,q]
     rw[d];have t:decNat (b :: r)=decFrom 0 (b :: r):=by simp[decNat]
     rw[t,if_neg (by simp;simpa using k)]
     cases i:decFrom 0 (b :: r) with
     | none=>simp
     | some m =>
      simp only[Option.map_some];have v:itoa (m:Int)=decDigits m:=by
       unfold itoa;rw[if_neg (by omega)];rfl
      rw[v];by_cases c:(b :: r).head? =some 48/\1<(b :: r).length
      ·rw[if_pos c,if_neg];intro e;rcases Nat.eq_zero_or_pos m with o | o
       ·subst o;rw[zw1]at e;have:=c.2;rw[<-e]at this;simp at this
       ·exact za3s m o (by rw[e];exact c.1)
      ·rw[if_neg c];have f:=za3t _ (b :: r) m rfl (by simp) (fun e=>by
        have:¬1<(b :: r).length:=fun h=>c ⟨e,h⟩;simp at this ⊢;exact this) i
       rw[if_neg (by omega),if_pos f]
 ·rw[if_neg k,if_pos (Or.inr (by omega))]
end Go.Proofs.YtgckdomafbnmkaaGreatDoor
namespace Go.Proofs.YtgckdomafbnmkaaGreatDoor
open Go.RowKit Go.Extern.Stop Go.Stop Go.Extern Go.Sort Go.Shelf Go.Lib
theorem zl1 (n:Int) (w:World):Calls Tryz.prog 77 #[.int .i64 n] w fun e w'=>e= .returned (.bool (!inNum n))/\w'=w:=by
 by_cases c:n < -1073741824
 ·have b:inNum n=false:=by simp[inNum];omega
  rw[b]
  go_enter Tryz.func77,Tryz.ntmps77
  go_wp2;go_ret;exact⟨rfl,rfl⟩
 ·by_cases d:1073741824<n
  ·have b:inNum n=false:=by simp[inNum];omega
   rw[b]
   go_enter Tryz.func77,Tryz.ntmps77
   go_wp2;go_ret;exact⟨rfl,rfl⟩
  ·have b:inNum n=true:=by simp[inNum];omega
   rw[b]
   go_enter Tryz.func77,Tryz.ntmps77
   go_wp2;go_ret;exact⟨rfl,rfl⟩
theorem za3v (s:ByteArray) (m:Nat) (w:World) (P:s.size<=maxLen):Calls Tryz.prog 115 #[.string s,.int .i64 m] w fun e w'=>e= .returned (.bool (wordB m s.data.toList))/\w'=w:=by
 unfold maxLen at P;have y:=za3 s;generalize g:wordB m s.data.toList=r;have F:Hid (wordB m s.data.toList=r):=g;have H:Hid (s.data.toList.length=s.size):=y;clear g y
 go_enter Tryz.func115,Tryz.ntmps115
 go_wp2
 go_loop [5] (fun k=> ∃n:Nat,n<=s.size/\(∀j c,j<n->s.data.toList[j]? =some c->nbI c.toNat=true)/\k= .int .i64 n) (fun k=>s.size-(intOf k).toNat)
 case atStart=>exact ⟨0,by omega,by omega,rfl⟩
 case round =>
  obtain⟨n,S,M,rfl⟩:=hrel;have I:Hid (∀j c,j<n->s.data.toList[j]? =some c->nbI c.toNat=true):=M;clear M;by_cases z:n<s.size
  ·have R:(n:Int)<(s.size:Int):=by omega
   have A:=zc4 s n z;have N:Hid (s.data.toList[n]? =some s[n]):=A;clear A;have B:nbI (s[n].toNat:Int)=false->r=false:=fun d=>by
    rw[<-F.out];simp only[wordB,Bool.and_eq_false_iff];right;rw[List.all_eq_false];exact⟨s[n],List.mem_of_getElem? N.out,by rw[d];simp⟩
   have l:nbI (s[n].toNat:Int)=true->∀j c,j<n+1->s.data.toList[j]? =some c->nbI c.toNat=true:=fun d=>za2w I.out z d;have o:Hid (nbI (s[n].toNat:Int)=false->r=false):=B;have p:Hid (nbI (s[n].toNat:Int)=true->∀j c,j<n+1->s.data.toList[j]? =some c->nbI c.toNat=true):=l;clear B l;by_cases q:97<=(s[n].toNat:Int)
   ·by_cases C:(s[n].toNat:Int)<=122
    ·have d:nbI (s[n].toNat:Int)=true:=by unfold nbI;simp only[q,C,decide_true,Bool.and_self,Bool.true_or]
     have G:Hid (∀j c,j<n+1->s.data.toList[j]? =some c->nbI c.toNat=true):=p.out d;clear d;have i:(48:Int)<=(s[n].toNat:Int):=by omega
     have t:¬(s[n].toNat:Int)<=57:=by omega
     go_wp2;go_round
     case rel=>exact ⟨n+1,by omega,G.out,by go_num⟩
     case measure=>simp [intOf];omega
    ·have i:(48:Int)<=(s[n].toNat:Int):=by omega
     have t:¬(s[n].toNat:Int)<=57:=by omega
     have d:nbI (s[n].toNat:Int)=false:=by unfold nbI;simp only[q,C,i,t,decide_true,decide_false,Bool.and_false,Bool.or_self]
     have g:=o.out d;subst g;clear d;go_wp2;go_ret;exact⟨rfl,rfl⟩
   ·have C:(s[n].toNat:Int)<=122:=by omega
    by_cases i:48<=(s[n].toNat:Int)
    ·by_cases t:(s[n].toNat:Int)<=57
     ·have d:nbI (s[n].toNat:Int)=true:=by unfold nbI;simp only[q,i,t,decide_true,decide_false,Bool.and_self,Bool.false_and,Bool.false_or]
      have G:Hid (∀j c,j<n+1->s.data.toList[j]? =some c->nbI c.toNat=true):=p.out d;clear d;go_wp2;go_round
      case rel=>exact ⟨n+1,by omega,G.out,by go_num⟩
      case measure=>simp [intOf];omega
     ·have d:nbI (s[n].toNat:Int)=false:=by unfold nbI;simp only[q,i,t,decide_true,decide_false,Bool.and_false,Bool.false_and,Bool.or_self]
      have g:=o.out d;subst g;clear d;go_wp2;go_ret;exact⟨rfl,rfl⟩
    ·have d:nbI (s[n].toNat:Int)=false:=by unfold nbI;simp only[q,i,decide_false,Bool.false_and,Bool.or_self]
     have g:=o.out d;subst g;clear d;go_wp2;go_ret;exact⟨rfl,rfl⟩
  ·have u:s.data.toList.all (fun c=>nbI c.toNat)=true:=by
    rw[List.all_eq_true];intro c O;obtain⟨k,E⟩:=List.mem_iff_getElem?.1 O;have Q:k<s.data.toList.length:=by
     rcases Nat.lt_or_ge k s.data.toList.length with h | h
     ·exact h
     ·rw[List.getElem?_eq_none h]at E;cases E
    have:=H.out;exact I.out k c (by omega) E
   have f:r=(decide (1<=s.size) && decide (s.size<=m)):=by
    rw[<-F.out];unfold wordB;rw[u,H.out,Bool.and_true]
   have J:n=s.size:=by omega
   subst J;clear u;by_cases K:1<=s.size
   ·by_cases L:s.size<=m
    ·have e:r=true:=by rw[f];simp[K,L]
     subst e;clear f;have v:decide ((s.size:Int)<=(m:Int))=true:=decide_eq_true (by omega);have D:Hid (decide ((s.size:Int)<=(m:Int))=true):=v;clear v;go_wp2;go_ret;exact⟨congrArg (fun b=>Ending.returned (Value.bool b)) (by first | exact D.out | (simp<;>omega)),rfl⟩
    ·have e:r=false:=by rw[f];simp[L]
     subst e;clear f;have v:decide ((s.size:Int)<=(m:Int))=false:=decide_eq_false (by omega);have D:Hid (decide ((s.size:Int)<=(m:Int))=false):=v;clear v;go_wp2;go_ret;exact⟨congrArg (fun b=>Ending.returned (Value.bool b)) (by first | exact D.out | (simp<;>omega)),rfl⟩
   ·have e:r=false:=by rw[f];simp[K]
    subst e;clear f;go_wp2;go_ret;exact⟨rfl,rfl⟩
theorem zb3w (s:ByteArray) (w:World) (b:s.size<=maxLen):Calls Tryz.prog 115 #[.string s,.int .i64 8] w fun e w'=>e= .returned (.bool (nameB s.data.toList))/\w'=w :=
 za3v s 8 w b
theorem zw2 (x:Rw) (w:World) (f:x.1.size<=maxLen) :
  Calls Tryz.prog 71 #[.agg #[.string x.1,.int .i64 x.2.1,.int .i64 x.2.2]] w fun e w'=>e= .returned (.int .i64 (rowE x))/\BL w w':=by
 obtain⟨p,k,v⟩:=x;dsimp only at f ⊢;have d:BL w (w.alloc (.cells #[.string p,.int .i64 k,.int .i64 v] 112)):=alB _ _;have b:=zb3w p (w.alloc (.cells #[.string p,.int .i64 k,.int .i64 v] 112)) f;have g:=fun n W=>zl1 n W;unfold rowE;dsimp only;cases c:nameB p.data.toList
 ·rw[c]at b;simp only[Bool.false_eq_true,if_false];clear c
  go_enter Tryz.func71,Tryz.ntmps71
  go_wp2_with (go_at_call 115;refine b.mono ?_;rintro e w' ⟨rfl,rfl⟩)
  go_ret;exact⟨rfl,d⟩
 ·rw[c]at b;clear c;cases i:inNum k<;>cases j:inNum v
  all_goals
   simp only[if_true,Bool.false_and,Bool.and_false,Bool.and_self,Bool.false_eq_true,if_false]
   go_enter Tryz.func71,Tryz.ntmps71
   go_wp2_with (first | (go_at_call 115;refine b.mono ?_;rintro e w' ⟨rfl,rfl⟩) | (go_at_call 77;refine(g _ _).mono ?_;rintro e w' ⟨rfl,rfl⟩))
   go_ret;exact⟨rfl,d⟩
theorem zb3x {b:List Int} {n:Nat} {x:Int} (h:∀j (h:j<b.length),j<n->b[j]≠x) (d:n<b.length) (e:b[n]≠x):∀j (h:j<b.length),j<n+1->b[j]≠x:=fun j hj hjn=>by
 rcases Nat.lt_or_ge j n with c | c
 ·exact h j hj c
 ·obtain rfl:j=n:=by omega
  exact e
theorem zb3y (v:Value) (d:List Int) (x:Int) (w:World) (h:KeysAt w v d) (i:d.length<=maxLen) :
  Calls Tryz.prog 119 #[.int .i64 x,v] w fun e w'=>e= .returned (.bool (d.contains x))/\w'=w:=by
 unfold maxLen at i;rcases h with⟨p,c,rfl,rfl⟩|⟨b,o,H,rfl,C⟩
 ·clear i
  go_enter Tryz.func119,Tryz.ntmps119
  go_wp2;refine wp_loop_rounds 1 ?_;rw[rounds_succ];go_wp2;go_ret;exact⟨rfl,rfl⟩
 ·generalize D:d.length=L at i ⊢;have l:Hid (d.length=L):=D;clear D;generalize f:d.contains x=r;have m:Hid (d.contains x=r):=f;clear f
  go_enter Tryz.func119,Tryz.ntmps119
  go_wp2
  go_loop [5] (fun k=> ∃n:Nat,n<=L/\(∀j (h:j<d.length),j<n->d[j]≠x)/\k= .int .i64 n) (fun k=>L-(intOf k).toNat)
  case atStart=>exact ⟨0,by omega,by omega,rfl⟩
  case round =>
   obtain⟨n,K,z,rfl⟩:=hrel;have q:Hid (∀j (h:j<d.length),j<n->d[j]≠x):=z;clear z;by_cases s:n<L
   ·have g:n<d.length:=by rw[l.out];exact s
    have G:=C n g;generalize F:d[n]=y at G;have t:Hid (d[n]=y):=F;clear F C;have I:(n:Int)<(L:Int):=by omega
    by_cases e:y=x
    ·have f:r=true:=by
      rw[<-m.out];simp only[List.contains_iff_mem];rw[<-e,<-t.out];exact List.getElem_mem _
     subst f e;go_wp2;go_ret;exact⟨rfl,rfl⟩
    ·have J:(y == x)=false:=by simpa using e
     have E:Hid (¬y=x):=e;clear e;go_wp2;go_round
     case rel=>exact ⟨n+1,by omega,zb3x q.out g (by rw[t.out];exact E.out),by go_num⟩
     case measure=>simp [intOf];omega
   ·have f:r=false:=by
     rw[<-m.out];rw[Bool.eq_false_iff];intro B;rw[List.contains_iff_mem]at B;obtain⟨j,A,e⟩:=List.mem_iff_getElem.1 B;exact q.out j A (by rw[l.out]at A;omega) e
    subst f;have u:n=L:=by omega
    subst u;go_wp2;go_ret;exact⟨rfl,rfl⟩
theorem zf6 (wr:World) (c:ByteArray) (d f:Int) (j:Nat) (u:Value) (b:(encR (c,d,f))[j]? =some u):(wr.alloc (.cells #[.string c,.int .i64 d,.int .i64 f] 112)).cell? ⟨wr.heap.size,j,none⟩=some u:=by
 match j,b with
 | 0,b=>simp [encR]at b;subst b;simp
 | 1,b=>simp [encR]at b;subst b;simp
 | 2,b=>simp [encR]at b;subst b;simp
 | j+3,b=>simp [encR]at b
theorem zw3:∀a b:List UInt8,Op.bytesLess a b=decide (Lib.compareBytes a b<0)
 | [], []=>by simp[Op.bytesLess,Lib.compareBytes]
 | [],_ :: _=>by simp[Op.bytesLess,Lib.compareBytes]
 | _ :: _, []=>by simp[Op.bytesLess,Lib.compareBytes]
 | a :: us,b :: vs=>by
  have g:=zw3 us vs;unfold Op.bytesLess Lib.compareBytes;by_cases c:a<b
  ·simp[c]
  ·by_cases d:b<a
   ·have f:¬a=b:=fun e=>by subst e;exact UInt8.lt_irrefl _ d
    simp[c,d,f]
   ·have f:a=b:=by
     rw[UInt8.lt_iff_toNat_lt]at c d;exact UInt8.toNat_inj.1 (by omega)
    subst f;simp[g]
theorem za3w (x y:Rw) (w:World) :
  Calls Tryz.prog 121 #[.agg #[.string x.1,.int .i64 x.2.1,.int .i64 x.2.2],.agg #[.string y.1,.int .i64 y.2.1,.int .i64 y.2.2]] w fun e w'=>e= .returned (.bool (ltOf cfR x y))/\BL w w':=by
 obtain⟨c,d,k⟩:=x;obtain⟨f,i,l⟩:=y;dsimp only;have m:BL w ((w.alloc (.cells #[.string c,.int .i64 d,.int .i64 k] 112)).alloc (.cells #[.string f,.int .i64 i,.int .i64 l] 112)):=(alB _ _).alloc (by simp) _;by_cases n:c=f
 ·subst n;have j:Lib.compareBytes c.data.toList c.data.toList=0:=zk1 _;by_cases o:d=i
  ·subst o;have g:ltOf cfR (c,d,k) (c,d,l)=decide (k<l):=by
    have q:Lib.compareInt d d=0:=by rcases zc2 d d with⟨h,_⟩|⟨_,h⟩|⟨h,_⟩<;>omega
    unfold ltOf cfR orOf;dsimp only;rw[if_pos j,if_pos q];rcases zc2 k l with⟨h,e⟩|⟨h,e⟩|⟨h,e⟩<;>rw [e]<;>simp<;>omega
   rw[g];clear g j
   go_enter Tryz.func121,Tryz.ntmps121
   go_wp2;go_ret;exact⟨rfl,m⟩
  ·have g:ltOf cfR (c,d,k) (c,i,l)=decide (d<i):=by
    unfold ltOf cfR orOf;dsimp only;rw[if_pos j];rcases zc2 d i with⟨h,e⟩|⟨h,e⟩|⟨h,e⟩
    ·rw[e];simp;omega
    ·exact absurd h o
    ·rw[e];simp;omega
   rw[g];have t:(d == i)=false:=by simpa using o
   clear g j o
   go_enter Tryz.func121,Tryz.ntmps121
   go_wp2;go_ret;exact⟨rfl,m⟩
 ·have p:¬Lib.compareBytes c.data.toList f.data.toList=0:=fun e=>n (zc1 (zk2 _ _ e));have g:ltOf cfR (c,d,k) (f,i,l)=decide (Lib.compareBytes c.data.toList f.data.toList<0):=by
   unfold ltOf cfR orOf;dsimp only;rw[if_neg p]
  rw[g];have u:(c.toList == f.toList)=false:=by
   rw[ByteArray.toList_eq,ByteArray.toList_eq];simpa using fun e=>n (zc1 e)
  have r:Op.bytesLess c.toList f.toList=decide (Lib.compareBytes c.data.toList f.data.toList<0):=by
   rw[ByteArray.toList_eq,ByteArray.toList_eq];exact zw3 _ _
  have s:Hid (Op.bytesLess c.toList f.toList=decide (Lib.compareBytes c.data.toList f.data.toList<0)):=r;clear r;clear g p n
  go_enter Tryz.func121,Tryz.ntmps121
  go_wp2;go_ret;exact⟨congrArg (fun b=>Ending.returned (Value.bool b)) s.out,m⟩
theorem zb3z (v:Value) (xs:List Rw) (lo hi:Int) (w:World) (A:RowsAt w v xs) (X:xs.length<=20000) :
  Calls Tryz.prog 118 #[v,.int .i64 lo,.int .i64 hi] w fun e w'=> ∃v',e= .returned v'/\w'.ownsRow w.heap.size 112 3 v' (xs.filter (inB lo hi)).length (flatR (xs.filter (inB lo hi)))/\BL w w':=by
 rcases A with⟨p0,c0,rfl,rfl⟩|⟨b,o,ac,rfl,A⟩
 ·clear X
  go_enter Tryz.func118,Tryz.ntmps118
  go_wp2;refine wp_loop_rounds 1 ?_;rw[rounds_succ];go_wp2;go_ret;exact⟨_,rfl,World.ownsRow_nil _ _ _ _,Below.refl _ _⟩
 obtain⟨Y,R,S,T,D⟩:=Tryz.rowInfo;generalize V:xs.length=L at X ⊢;have G:Hid (xs.length=L):=V;clear V
 go_enter Tryz.func118,Tryz.ntmps118
 go_wp2
 go_loopw [7,8] (fun kept k wr=> ∃n:Nat,n<=L/\k= .int .i64 n/\BL w wr/\wr.ownsRow w.heap.size 112 3 kept ((xs.take n).filter (inB lo hi)).length (flatR ((xs.take n).filter (inB lo hi)))) (fun _ k _=>L-(intOf k).toNat)
 case atStart=>exact ⟨0,by omega,rfl,Below.refl _ _,by simp[flatR];exact World.ownsRow_nil _ _ _ _⟩
 case round =>
  obtain⟨n,hn,rfl,p,c⟩:=hrel;by_cases H:n<L
  ·have s:n<xs.length:=by rw[G.out];exact H
   obtain⟨Z,h2,h3⟩:=A.below p n s;have ab:(n:Int)<(L:Int):=by omega
   have B:=zp2 (inB lo hi) xs n s;generalize W:xs[n]=x at Z h2 h3 B;have C:Hid ((xs.take (n+1)).filter (inB lo hi)=(xs.take n).filter (inB lo hi)++if inB lo hi x then [x] else []):=B;clear B W;obtain⟨g,d,i⟩:=x;have m:Hid (wr.ownsRow w.heap.size 112 3 u7 ((xs.take n).filter (inB lo hi)).length (flatR ((xs.take n).filter (inB lo hi)))):=c;have t:((xs.take n).filter (inB lo hi)).length<=n:=Nat.le_trans (List.length_filter_le _ _) (List.length_take_le _ _);have y:Hid (((xs.take n).filter (inB lo hi)).length<=n):=t;clear c t A;by_cases I:lo<=d
   ·by_cases J:d<=hi
    ·have l:inB lo hi (g,d,i)=true:=by simp[inB,I,J]
     have f:Hid ((xs.take (n+1)).filter (inB lo hi)=(xs.take n).filter (inB lo hi)++ [(g,d,i)]):=by
      have:=C.out;rw[l]at this;simpa [Hid] using this
     generalize hK:(xs.take n).filter (inB lo hi)=K at m y f;clear hK;have M:BL wr (wr.alloc (.cells #[.string g,.int .i64 d,.int .i64 i] 112)):=alB _ _;have z:BL w (wr.alloc (.cells #[.string g,.int .i64 d,.int .i64 i] 112)):=p.alloc p.size _
     go_wp2_with (at_builtin;refine wpList_append_own _ rfl _ _ 44 rfl w.heap.size 112 Y (.agg #[.string ⟨#[]⟩,.int .i64 0,.int .i64 0]) 3 32 Tryz.underlying44 R S T D rfl (by decide) u7 K.length (flatR K) rfl ?qc0 ⟨wr.heap.size,0,none⟩ 1 1 (encR (g,d,i)) rfl ?qc1 ?qc2 ?qc3 ?qc4 ?qc5 ?qc6 ?_)
     case qc0=>exact za2 m.out M
     case qc1=>rfl
     case qc2 =>
      intro j u E
      first
       | exact E
       | (simpa [encR] using E)
       | (rw[Addr.add_lit,Nat.zero_add];exact zf6 wr g d i j u E)
     case qc3=>exact zc6 _
     case qc4=>have:=y.out;unfold maxLen;omega
     case qc5=>have:=y.out;omega
     case qc6=>first | exact z.size | (have:=p.size;omega)
     intro v' U q r F;have N:BL w U:=z.grown r z.size (fun k hk=>by
      rcases m.out.2 with⟨e,_⟩|⟨g',aa,ad,e,ae,_⟩
      ·rw[e]at hk;simp[Value.ownBlock]at hk
      ·rw[e]at hk;simp[Value.ownBlock]at hk;omega)
     have O:Hid (U.ownsRow w.heap.size 112 3 v' (K.length+1) (flatR K++encR (g,d,i))):=q;clear q F r;go_wp2;go_roundw
     case rel=>exact ⟨n+1,by omega,by go_num,N,by rw[f.out,List.length_append,zc3,zi2];exact O.out⟩
     case measure=>simp [intOf];omega
    ·have l:inB lo hi (g,d,i)=false:=by simp[inB,J]
     have f:Hid ((xs.take (n+1)).filter (inB lo hi)=(xs.take n).filter (inB lo hi)):=by
      have:=C.out;rw[l]at this;simpa [Hid] using this
     go_wp2;go_roundw
     case rel=>exact ⟨n+1,by omega,by go_num,p,by rw[f.out];exact m.out⟩
     case measure=>simp [intOf];omega
   ·have l:inB lo hi (g,d,i)=false:=by simp[inB,I]
    have f:Hid ((xs.take (n+1)).filter (inB lo hi)=(xs.take n).filter (inB lo hi)):=by
     have:=C.out;rw[l]at this;simpa [Hid] using this
    go_wp2;go_roundw
    case rel=>exact ⟨n+1,by omega,by go_num,p,by rw[f.out];exact m.out⟩
    case measure=>simp [intOf];omega
  ·have P:n=L:=by omega
   subst P;have Q:xs.take n=xs:=List.take_of_length_le (by rw[G.out];omega);rw[Q]at c;have m:Hid (wr.ownsRow w.heap.size 112 3 u7 (xs.filter (inB lo hi)).length (flatR (xs.filter (inB lo hi)))):=c;clear c Q;go_wp2;go_ret;exact⟨u7,rfl,m.out,p⟩
def Grew (w w':World):Prop:= ∃q os,w'=grow (w.drewN q) os
theorem Grew.alloc (w:World) (o:Obj):Grew w (w.alloc o):=⟨0,#[o],by rw[alloc_eq_grow];rfl⟩
theorem Grew.trans {a b c:World} (h:Grew a b) (k:Grew b c):Grew a c:=by
 obtain⟨q,f,rfl⟩:=h;obtain⟨g,d,rfl⟩:=k;refine⟨q+g,f++d,?_⟩;show grow (grow ((a.drewN q).drewN g) f) d=_;rw[grow_grow,World.drewN_drewN]
theorem Grew.below {w w':World} (h:Grew w w'):BL w w':=by
 obtain⟨q,b,rfl⟩:=h;exact zp6 q b
theorem za3x (n:Int) (w:World) (f:0<=n) (g:n<=255) :
  Calls Tryz.prog 158 #[.int .i64 n] w fun e w'=>e= .returned (.string ⟨#[UInt8.ofNat n.toNat]⟩)/\Grew w w':=by
 have b:∀dst,Tryz.prog.underlying dst=some .string->(convert 268 dst (.slice (some ⟨w.heap.size,0,none⟩) 1 1)).run Tryz.prog (w.alloc (.cells #[.int .u8 n] 5))= .ok (.string (strOfNums [n])) (w.alloc (.cells #[.int .u8 n] 5)) :=
  run_convert_bytes_arg (P:=Tryz.prog) (w.alloc (.cells #[.int .u8 n] 5)) 268 5 Tryz.underlying268 Tryz.underlying5 w.heap.size 0 1 1 [n] rfl (fun i hi=>by
   obtain rfl:i=0:=by omega
   simp)
 have d:=b 9 Tryz.underlying9;have c:strOfNums [n]=⟨#[UInt8.ofNat n.toNat]⟩:=rfl;rw[c]at d;clear b c
 go_enter Tryz.func158,Tryz.ntmps158
 go_wp2;go_ret;exact⟨rfl,Grew.alloc _ _⟩
theorem zb4a {u:Nat} (h:u<10):decDigits u= [UInt8.ofNat (48+u)]:=by rw[decDigits,dif_pos h]
theorem zb4b {u:Nat} (h:¬u<10):decDigits u=decDigits (u / 10)++ [UInt8.ofNat (48+u % 10)]:=by rw[decDigits,dif_neg h]
theorem za3y (a b:List UInt8):bytesOf a++bytesOf b=bytesOf (a++b):=by
 apply zc1;simp[bytesOf,ByteArray.data_append]
theorem zf7 (l:List UInt8):(bytesOf l).size=l.length:=by simp[bytesOf,ByteArray.size]
theorem zb4c (n:Int) (h:n<=0):n.tdiv 10= -((n.natAbs / 10:Nat):Int):=by
 obtain⟨m,rfl⟩:∃m:Nat,n= -(m:Int):=⟨n.natAbs,by omega⟩;rw[Int.neg_tdiv,Int.natAbs_neg,Int.natAbs_natCast];rfl
theorem zb4d (n:Int) (h:n<=0):n.tmod 10= -((n.natAbs % 10:Nat):Int):=by
 obtain⟨m,rfl⟩:∃m:Nat,n= -(m:Int):=⟨n.natAbs,by omega⟩;rw[Int.neg_tmod,Int.natAbs_neg,Int.natAbs_natCast];rfl
theorem za3z:∀(m:Nat) (n:Int) (w:World),n.natAbs<m->n<=0-> -9223372036854775808<=n ->
  Calls Tryz.prog 123 #[.int .i64 n] w fun e w'=>e= .returned (.string (bytesOf (decDigits n.natAbs)))/\Grew w w':=by
 intro m
 induction m with
 | zero=>intro n w h _ _;omega
 | succ m ih =>
  intro n w J y K;by_cases H: -10<n
  ·rw[zb4a (by omega)];have i:=za3x (48-n) w (by omega) (by omega);have e:(48-n).toNat=48+n.natAbs:=by omega
   rw[e]at i;have d:bytesOf [UInt8.ofNat (48+n.natAbs)]=⟨#[UInt8.ofNat (48+n.natAbs)]⟩:=rfl;rw[d];clear ih e d;generalize (⟨#[UInt8.ofNat (48+n.natAbs)]⟩:ByteArray)=E at i ⊢
   go_enter Tryz.func123,Tryz.ntmps123
   go_wp2_with (go_at_call 158;refine i.mono ?_;rintro e z ⟨rfl,s⟩)
   go_ret;exact⟨rfl,s⟩
  ·have j:=zb4c n y;have k:=zb4d n y;have b:=ih (-((n.natAbs / 10:Nat):Int)) w (by omega) (by omega) (by omega);have f:(-((n.natAbs / 10:Nat):Int)).natAbs=n.natAbs / 10:=by omega
   rw[f]at b;have c:=fun W=>za3x (48 - -((n.natAbs % 10:Nat):Int)) W (by omega) (by omega);have e:(48 - -((n.natAbs % 10:Nat):Int)).toNat=48+n.natAbs % 10:=by omega
   rw[e]at c;rw[zb4b (by omega),<-za3y];have l:(bytesOf (decDigits (n.natAbs / 10))).size<=20:=by
    rw[zf7];exact zg6 19 _ (by omega)
   have t: -9223372036854775808<= -((n.natAbs / 10:Nat):Int):=by omega
   have o: -((n.natAbs / 10:Nat):Int)<=0:=by omega
   have u: -9<= -((n.natAbs % 10:Nat):Int):=by omega
   have p: -((n.natAbs % 10:Nat):Int)<=0:=by omega
   rw[<-j]at b t o;rw[<-k]at c u p;clear f e j k ih;have g:bytesOf [UInt8.ofNat (48+n.natAbs % 10)]=⟨#[UInt8.ofNat (48+n.natAbs % 10)]⟩:=rfl;rw[g];clear g;have v:(⟨#[UInt8.ofNat (48+n.natAbs % 10)]⟩:ByteArray).size=1:=rfl;generalize d:(⟨#[UInt8.ofNat (48+n.natAbs % 10)]⟩:ByteArray)=E at c v ⊢;generalize B:bytesOf (decDigits (n.natAbs / 10))=D at b l ⊢;clear d B;have I:¬9223372036854775807<D.size+E.size:=by omega
   have C:IntKind.i64.wrap (n.tdiv 10)=n.tdiv 10:=IntWalk.i64_in _ (by omega);have F:IntKind.i64.wrap (n.tmod 10)=n.tmod 10:=IntWalk.i64_in _ (by omega);have G:IntKind.i64.wrap (48-n.tmod 10)=48-n.tmod 10:=IntWalk.i64_in _ (by omega);generalize j:n.tdiv 10=q at *;generalize k:n.tmod 10=r at *
   go_enter Tryz.func123,Tryz.ntmps123
   go_wp2_with (go_at_call 123;refine b.mono ?_;rintro e z ⟨rfl,s⟩)
   refine(c z).mono ?_;rintro e L ⟨rfl,A⟩;go_wp2;go_ret;exact⟨rfl,s.trans A⟩
theorem zi4 (n:Int) (w:World) (m: -9223372036854775808<=n) (o:n<=9223372036854775807) :
  Calls Tryz.prog 78 #[.int .i64 n] w fun e w'=>e= .returned (.string (bytesOf (itoa n)))/\Grew w w':=by
 unfold itoa;by_cases f:n<0
 ·rw[if_pos f];have b:=za3z (n.natAbs+1) n w (by omega) (by omega) (by omega);have g:bytesOf (45 :: decDigits n.natAbs)=⟨#[45]⟩++bytesOf (decDigits n.natAbs):=by
   have:=za3y [45] (decDigits n.natAbs);exact this.symm
  rw[g];have c:(bytesOf (decDigits n.natAbs)).size<=20:=by
   rw[zf7];exact zg6 19 _ (by omega)
  clear g;generalize bytesOf (decDigits n.natAbs)=D at b c ⊢;have k:¬9223372036854775807<1+D.size:=by omega
  have j:¬9223372036854775806<D.size:=by omega
  go_enter Tryz.func78,Tryz.ntmps78
  go_wp2_with (go_at_call 123;refine b.mono ?_;rintro e i ⟨rfl,d⟩)
  go_ret;exact⟨rfl,d⟩
 ·rw[if_neg f];have b:=za3z (n.natAbs+1) (-n) w (by omega) (by omega) (by omega);have e:(-n).natAbs=n.toNat:=by omega
  rw[e]at b;clear e;generalize bytesOf (decDigits n.toNat)=D at b ⊢;have l:IntKind.i64.wrap (-n)= -n:=IntWalk.i64_in _ (by omega)
  go_enter Tryz.func78,Tryz.ntmps78
  go_wp2_with (go_at_call 123;refine b.mono ?_;rintro e i ⟨rfl,d⟩)
  go_ret;exact⟨rfl,d⟩
theorem zb4e (x:Rw) (w:World) (r:x.1.size<=maxLen) :
  Calls Tryz.prog 73 #[.agg #[.string x.1,.int .i64 x.2.1,.int .i64 x.2.2]] w fun e w'=>e= .returned (.string (textB x))/\BL w w':=by
 have s:BL w (w.alloc (.cells #[.string x.1,.int .i64 x.2.1,.int .i64 x.2.2] 112)):=alB _ _;have g:=zw2 x (w.alloc (.cells #[.string x.1,.int .i64 x.2.1,.int .i64 x.2.2] 112)) r;unfold textB;by_cases b:rowE x=0
 ·rw[if_pos b];rw[b]at g;have d:inNum x.2.1=true/\inNum x.2.2=true:=by
   unfold rowE at b;split at b
   ·split at b
    ·rename_i i;simpa using i
    ·omega
   ·omega
  obtain⟨p,k,v⟩:=x;dsimp only at *;have z:p.size<=8:=by
   unfold rowE at b;split at b
   ·rename_i i;simp only[nameB,Bool.and_eq_true,decide_eq_true_eq]at i;rw[za3]at i;exact i.1.2
   ·omega
  clear b r;have C:(bytesOf (itoa k)).size<=11:=by
   have:=d.1;simp only[inNum,Bool.and_eq_true,decide_eq_true_eq]at this;simpa [bytesOf,ByteArray.size] using zi1 k this.1 this.2
  have D:(bytesOf (itoa v)).size<=11:=by
   have:=d.2;simp only[inNum,Bool.and_eq_true,decide_eq_true_eq]at this;simpa [bytesOf,ByteArray.size] using zi1 v this.1 this.2
  unfold sp;have A:inNum k=true:=d.1;have B:inNum v=true:=d.2;have t:Tryz.prog.follows .mixedOrders=true:=by kernel_rfl
  clear d
  go_enter Tryz.func73,Tryz.ntmps73
  go_wp2_with (go_at_call 71;refine g.mono ?_;rintro e f ⟨rfl,c⟩)
  have j:f.cell? ⟨w.heap.size,0,none⟩=some (.string p):=za0 c (by simp);have l:f.cell? ⟨w.heap.size,1,none⟩=some (.int .i64 k):=za0 c (by simp);have o:f.cell? ⟨w.heap.size,2,none⟩=some (.int .i64 v):=za0 c (by simp);have F:=fun n os=>cell_grown (zb8 j) j n os;have G:=fun n os=>cell_grown (zb8 l) l n os;have H:=fun n os=>cell_grown (zb8 o) o n os;have u:BL w f:=trB s c;have y:∀m:Int,inNum m=true->∀n os,Calls Tryz.prog 78 #[.int .i64 m] (grow (f.drewN n) os) fun e w'=>e= .returned (.string (bytesOf (itoa m)))/\∃q os',w'=grow ((grow (f.drewN n) os).drewN q) os':=fun m t n os=>by
   simp only[inNum,Bool.and_eq_true,decide_eq_true_eq]at t;exact zi4 m _ (by omega) (by omega)
  clear j l o g;have I:¬9223372036854775807<p.size+1:=by omega
  have J:¬9223372036854775807<p.size+1+(bytesOf (itoa k)).size:=by omega
  have K:¬9223372036854775807<p.size+1+(bytesOf (itoa k)).size+1:=by omega
  have L:¬9223372036854775807<p.size+1+(bytesOf (itoa k)).size+1+(bytesOf (itoa v)).size:=by omega
  have M:¬9223372036854775806<p.size:=by omega
  have N:¬9223372036854775806<p.size+1+(bytesOf (itoa k)).size:=by omega
  go_quiet_grown ((go_at_call 78;exact Calls.grown_of (y _ (by assumption) _ _)))
  go_wp2;go_ret;exact⟨rfl,u.trans ((zp6 nq osq).mono u.size)⟩
 ·rw[if_neg b];obtain⟨p,k,v⟩:=x;dsimp only at *;generalize rowE (p,k,v)=E at b g;have O:(0:Int)<(E:Int):=by omega
  clear b r
  go_enter Tryz.func73,Tryz.ntmps73
  go_wp2_with (go_at_call 71;refine g.mono ?_;rintro e f ⟨rfl,c⟩)
  go_ret;exact⟨rfl,(trB s c)⟩
end Go.Proofs.YtgckdomafbnmkaaGreatDoor
