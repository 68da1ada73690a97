/- By an AI agent. -/
import Derived.Test.YtgckdomafbnmkaaGreatDoorStbSeg
import Derived.Lib.SliceRun
set_option maxRecDepth 100000
set_option maxHeartbeats 16000000
namespace Go.Proofs.YtgckdomafbnmkaaGreatDoor
open Go.RowKit Go.Extern.Stop Go.Stop Go.Extern Go.Sort Go.Shelf Go.Lib
structure StK (b L:Nat) (kl:Nat->Nat->Bool) (lt:Nat->Nat->Prop) (D:List Nat) (w:World):Prop where
 tr:∀x y z,lt x y->lt y z->lt x z
 ask:AskC b kl D w
 ag:D.Pairwise (Agree kl lt)
 len:D.length=L
 le:L<=10000
def S1 (B b L cap:Nat) (lt:Nat->Nat->Prop) (D:List Nat) (w W:World) (a:Nat):Prop:= ∃E,OwnP B W b L cap E/\But (fun k=>k=b) w W/\Pfx lt D E 20 a/\E.drop a=D.drop a/\a<=L
def S2 (B b L cap:Nat) (lt:Nat->Nat->Prop) (D:List Nat) (w W:World) (z:Nat):Prop:= ∃E,OwnP B W b L cap E/\But (fun k=>k=b) w W/\Bks lt D E z 0
def S3 (B b L cap:Nat) (lt:Nat->Nat->Prop) (D:List Nat) (w W:World) (z a:Nat):Prop:= ∃E,OwnP B W b L cap E/\But (fun k=>k=b) w W/\Pfx lt D E (2*z) a/\Bks lt D E z a/\a<=L
section
variable {B b L cap : Nat} {kl : Nat → Nat → Bool} {lt : Nat → Nat → Prop} {D : List Nat} {w W : World}
theorem za9b {E:List Nat} {a c:Nat} (h:E.drop a=D.drop a):seg E a c=seg D a c:=by
 unfold seg;rw[List.drop_take,List.drop_take,h]
theorem zc3u (K:StK b L kl lt D w) {a:Nat} (h:S1 B b L cap lt D w W a) (z:a+20<=L) :
  Calls Tryz.prog 136 #[.slice (some ⟨b,0,none⟩) L cap,.int .i64 (a:Int),.int .i64 ((a+20:Nat):Int),cvP] W fun e w'=>e= .returned (.tuple #[])/\S1 B b L cap lt D w w' (a+20):=by
 obtain⟨E,f,k,t,m,C⟩:=h;have A:=f.len;have c:seg E a (a+20)=seg D a (a+20):=za9b m;have g:=zs7 E (a:=a) (b:=a+20) (by omega);rw[g]at f;have d:(seg D a (a+20)).Sublist D:=(List.drop_sublist _ _).trans (List.take_sublist _ _);have i:=za8w B b L cap (E.take a) (seg E a (a+20)) (E.drop (a+20)) kl lt K.tr W f ((K.ask.but k).sub (fun x hx=>by rw[c]at hx;exact d.subset hx)) (by rw[c];exact K.ag.sublist d) (by have:=K.le;omega);have n:(E.take a).length=a:=by rw[List.length_take];omega
 have o:a+(seg E a (a+20)).length=a+20:=by rw[zc0];omega
 rw[n,o]at i;refine i.mono fun e w' ⟨he,M,h1,h2,h3,h4⟩=>⟨he,_,h3,k.trans h4 (fun _ h _=>h),?_⟩;obtain⟨u,v,y,F⟩:=za1c (l:=E) (l':=E.take a++M++E.drop (a+20)) (M:=M) (a:=a) (b:=a+20) rfl (by omega) (by omega) (by rw[h1.length_eq,zc0];omega);refine⟨Pfx.next (t.same u (Nat.le_refl _)) ?_,?_,z⟩
 ·unfold Sg;rw[y];rw[c]at h1;exact⟨h1,h2⟩
 ·have j:=v (a+20) (E.length) (Nat.le_refl _);have p:=zb5 (E.take a++M++E.drop (a+20)) (a:=a+20) (b:=E.length) (by omega);have q:=zb5 E (a:=a+20) (b:=E.length) (Nat.le_refl _);rw[p,q]at j;rw[j];have r:E.drop (a+20)=(E.drop a).drop 20:=by rw[List.drop_drop]
  have s:D.drop (a+20)=(D.drop a).drop 20:=by rw[List.drop_drop]
  rw[r,s,m]
theorem zc3v (K:StK b L kl lt D w) {a:Nat} (h:S1 B b L cap lt D w W a) (A:L<a+20) :
  Calls Tryz.prog 136 #[.slice (some ⟨b,0,none⟩) L cap,.int .i64 (a:Int),.int .i64 (L:Int),cvP] W fun e w'=>e= .returned (.tuple #[])/\S2 B b L cap lt D w w' 20:=by
 obtain⟨E,g,k,q,r,f⟩:=h;have u:=g.len;have v:=K.len;have c:seg E a L=seg D a L:=za9b r;have i:=zs7 E (a:=a) (b:=L) f;rw[i]at g;have d:(seg D a L).Sublist D:=(List.drop_sublist _ _).trans (List.take_sublist _ _);have j:=za8w B b L cap (E.take a) (seg E a L) (E.drop L) kl lt K.tr W g ((K.ask.but k).sub (fun x hx=>by rw[c]at hx;exact d.subset hx)) (by rw[c];exact K.ag.sublist d) (by have:=K.le;omega);have m:(E.take a).length=a:=by rw[List.length_take];omega
 have n:a+(seg E a L).length=L:=by rw[zc0];omega
 rw[m,n]at j;refine j.mono fun e w' ⟨he,M,h1,h2,h3,h4⟩=>⟨he,_,h3,k.trans h4 (fun _ h _=>h),?_⟩;obtain⟨s,y,t,z⟩:=za1c (l:=E) (l':=E.take a++M++E.drop L) (M:=M) (a:=a) (b:=L) rfl f (by omega) (by rw[h1.length_eq,zc0];omega);refine(q.same s (Nat.le_refl _)).all (Bks.step ?_ (Bks.done (by omega)));unfold Sg;rw[zb5 _ (by omega),zb5 D (by omega)];have o:=zb5 (E.take a++M++E.drop L) (a:=a) (b:=L) (by omega);have p:=zb5 D (a:=a) (b:=L) (by omega);rw[<-o,<-p,t];rw[c]at h1;exact⟨h1,h2⟩
theorem zn2 {E:List Nat} {z a:Nat} (h:Bks lt D E z a) (b:a<E.length):Sg lt D E a (a+z)/\Bks lt D E z (a+z):=by
 cases h with
 | done h=>omega
 | step h1 h2=>exact ⟨h1,h2⟩
theorem zc3w (K:StK b L kl lt D w) {z a:Nat} (G:0<z) (h:S3 B b L cap lt D w W z a) (A:a+2*z<=L) :
  Calls Tryz.prog 137 #[.slice (some ⟨b,0,none⟩) L cap,.int .i64 (a:Int),.int .i64 ((a+z:Nat):Int),.int .i64 ((a+2*z:Nat):Int),cvP] W fun e w'=>e= .returned (.tuple #[])/\S3 B b L cap lt D w w' z (a+2*z):=by
 obtain⟨E,j,l,q,r,F⟩:=h;have C:=j.len;obtain⟨g,s⟩:=zn2 r (by omega);obtain⟨f,m⟩:=zn2 s (by omega);rw[show a+z+z=a+2*z by omega]at f m;have i:=zs7 E (a:=a) (b:=a+2*z) (by omega);rw[<-zs8 E (a:=a) (b:=a+z) (c:=a+2*z) (by omega) (by omega),<-List.append_assoc]at i;rw[i]at j;have k:=za1b B b L cap kl lt K.tr (by have:=K.le;omega) (L+1) (E.take a) (seg E a (a+z)) (seg E (a+z) (a+2*z)) (E.drop (a+2*z)) W (by rw[zc0,zc0];omega) (by rw[zc0];omega) (by rw[zc0];omega) j ((K.ask.but l).sub (fun x d=>by
  rw[List.mem_append]at d;rcases d with d | d
  ·exact zs9 g x d
  ·exact zs9 f x d)) g.2 f.2 (za9a K.ag g f)
 have n:(E.take a).length=a:=by rw[List.length_take];omega
 have o:a+(seg E a (a+z)).length=a+z:=by rw[zc0];omega
 have p:a+z+(seg E (a+z) (a+2*z)).length=a+2*z:=by rw[zc0];omega
 rw[n,o,p]at k;refine k.mono fun e w' ⟨he,M,h1,h2,h3,h4⟩=>⟨he,_,h3,l.trans h4 (fun _ h _=>h),?_⟩;obtain⟨t,u,v,y⟩:=za8z (D:=D) (E':=E.take a++M++E.drop (a+2*z)) (by omega) (by omega) (by omega) g f h1 h2 rfl;exact⟨Pfx.next (q.same u (Nat.le_refl _)) t,m.same v y (Nat.le_refl _),A⟩
theorem zc3x (K:StK b L kl lt D w) {z a:Nat} (H:0<z) (h:S3 B b L cap lt D w W z a) (I:L<a+2*z) (J:a+z<L) :
  Calls Tryz.prog 137 #[.slice (some ⟨b,0,none⟩) L cap,.int .i64 (a:Int),.int .i64 ((a+z:Nat):Int),.int .i64 (L:Int),cvP] W fun e w'=>e= .returned (.tuple #[])/\S2 B b L cap lt D w w' (2*z):=by
 obtain⟨E,j,n,s,t,o⟩:=h;have y:=j.len;have A:=K.len;obtain⟨g,u⟩:=zn2 t (by omega);obtain⟨k,C⟩:=zn2 u (by omega);have f:Sg lt D E (a+z) L:=by
  unfold Sg at k ⊢;rw[zb5 E (by omega),zb5 D (by omega)]at k;rw[zb5 E (by omega),zb5 D (by omega)];exact k
 have i:=zs7 E (a:=a) (b:=L) o;rw[<-zs8 E (a:=a) (b:=a+z) (c:=L) (by omega) (by omega),<-List.append_assoc]at i;rw[i]at j;have m:=za1b B b L cap kl lt K.tr (by have:=K.le;omega) (L+1) (E.take a) (seg E a (a+z)) (seg E (a+z) L) (E.drop L) W (by rw[zc0,zc0];omega) (by rw[zc0];omega) (by rw[zc0];omega) j ((K.ask.but n).sub (fun x d=>by
  rw[List.mem_append]at d;rcases d with d | d
  ·exact zs9 g x d
  ·exact zs9 f x d)) g.2 f.2 (za9a K.ag g f)
 have p:(E.take a).length=a:=by rw[List.length_take];omega
 have q:a+(seg E a (a+z)).length=a+z:=by rw[zc0];omega
 have r:a+z+(seg E (a+z) L).length=L:=by rw[zc0];omega
 rw[p,q,r]at m;refine m.mono fun e w' ⟨he,M,h1,h2,h3,h4⟩=>⟨he,_,h3,n.trans h4 (fun _ h _=>h),?_⟩;obtain⟨l,v,F,G⟩:=za8z (D:=D) (E':=E.take a++M++E.drop L) (by omega) (by omega) (by omega) g f h1 h2 rfl;refine(s.same v (Nat.le_refl _)).all (Bks.step ?_ (Bks.done (by omega)));unfold Sg at l ⊢;rw[zb5 _ (by omega),zb5 D (by omega)]at l;rw[zb5 _ (by omega),zb5 D (by omega)];exact l
theorem zc3y (K:StK b L kl lt D w) {z a:Nat} (h:S3 B b L cap lt D w W z a) (m:L<=a+z):S2 B b L cap lt D w W (2*z):=by
 obtain⟨E,d,f,g,i,l⟩:=h;have j:=d.len;have k:=K.len;refine⟨E,d,f,g.all ?_⟩;by_cases e:a<L
 ·obtain⟨c,_⟩:=zn2 i (by omega);refine Bks.step ?_ (Bks.done (by omega));unfold Sg at c ⊢;rw[zb5 E (by omega),zb5 D (by omega)]at c;rw[zb5 E (by omega),zb5 D (by omega)];exact c
 ·exact Bks.done (by omega)
theorem zc3z {z:Nat} (h:S2 B b L cap lt D w W z):S3 B b L cap lt D w W z 0:=by
 obtain⟨E,c,d,f⟩:=h;exact⟨E,c,d,Pfx.zero,f,Nat.zero_le _⟩
theorem zc4a (K:StK b L kl lt D w) {z:Nat} (h:S2 B b L cap lt D w W z) (k:L<=z):SortP B b L cap [] D [] lt w W:=by
 obtain⟨E,c,d,f⟩:=h;have j:=c.len;obtain⟨g,i⟩:=f.whole (by have:=K.len;omega) (by omega);exact⟨E,g,i,by rw[List.nil_append,List.append_nil];exact c,d⟩
theorem zc4b (K:StK b L kl lt D w) (P:OwnP B w b L cap D) :
  Calls Tryz.prog 95 #[.slice (some ⟨b,0,none⟩) L cap,.int .i64 (L:Int),cvP] w fun e w'=>e= .returned (.tuple #[])/\SortP B b L cap [] D [] lt w w':=by
 have t:Hid (StK b L kl lt D w):=K;have hL:=K.le;have C:Hid (S1 B b L cap lt D w w 0):=⟨D,P,But.refl _ _,Pfx.zero,rfl,Nat.zero_le _⟩;unfold cvP;clear K P
 go_enter Tryz.func95,Tryz.ntmps95
 go_wp2
 go_loopw [7,8] (fun x y wr=> ∃a:Nat,a<=L/\x= .int .i64 (a:Int)/\y= .int .i64 ((a+20:Nat):Int)/\S1 B b L cap lt D w wr a) (fun x _ _=>L-(intOf x).toNat)
 case atStart=>exact ⟨0,by omega,rfl,rfl,C.out⟩
 case round =>
 clear C;obtain⟨a,ab,rfl,rfl,m⟩:=hrel;have j:Hid (S1 B b L cap lt D w wr a):=m;clear m;by_cases s:a+20<=L
 case pos =>
  have f:=zc3u t.out j.out s;unfold cvP at f;obtain⟨c,n⟩:∃c,a+20=c:=⟨_,rfl⟩;have A:(c:Int)<=(L:Int):=by omega
  have Q:IntKind.i64.wrap ((c:Int)+20)=((c+20:Nat):Int):=by rw[IntWalk.i64_in _ (by omega)];omega
  have R:Hid (a+20=c):=n;rw[n]at f ⊢;clear n s j
  go_wp2_with fail
  refine f.mono ?_;rintro e X ⟨rfl,H⟩;have j:Hid (S1 B b L cap lt D w X c):=H;clear f H;go_wp2;go_roundw
  case rel=>exact ⟨c,by omega,rfl,rfl,j.out⟩
  case measure=>have:=R.out;simp[intOf];omega
 case neg =>
 have f:=zc3v t.out j.out (by omega);unfold cvP at f;obtain⟨c,n⟩:∃c,a+20=c:=⟨_,rfl⟩;have A:¬(c:Int)<=(L:Int):=by omega
 rw[n];clear n j
 go_wp2_with fail
 refine f.mono ?_;rintro e Y ⟨rfl,I⟩;have E:Hid (S2 B b L cap lt D w Y 20):=I;clear f I s A;go_wp2
 go_loopw [6,7,8,9] (fun x _ _ _ wr=> ∃z:Nat,0<z/\z<=2*L+20/\x= .int .i64 (z:Int)/\S2 B b L cap lt D w wr z) (fun x _ _ _ _=>L-(intOf x).toNat)
 case atStart=>exact ⟨20,by omega,by omega,rfl,E.out⟩
 case round =>
 clear E;obtain⟨z,G,ac,rfl,m⟩:=hrel;by_cases s:z<L
 case neg =>
  have S:Hid (SortP B b L cap [] D [] lt w wr):=zc4a t.out m (by omega);have A:¬(z:Int)<(L:Int):=by omega
  clear m;go_wp2;go_end0;exact⟨rfl,S.out⟩
 case pos =>
 have F:Hid (S3 B b L cap lt D w wr z 0):=zc3z m;clear m;have A:(z:Int)<(L:Int):=by omega
 obtain⟨d,g⟩:∃k,2*z=k:=⟨_,rfl⟩;have M:Hid (2*z=d):=g;have Q:IntKind.i64.wrap (2*(z:Int))=(d:Int):=by rw[IntWalk.i64_in _ (by omega)];omega
 have Z:IntKind.i64.wrap ((z:Int)*2)=(d:Int):=by rw[IntWalk.i64_in _ (by omega)];omega
 clear g
 go_upto_region 9 with fail
 go_loopw [7,8] (fun x y wr=> ∃a:Nat,a<=L/\x= .int .i64 (a:Int)/\y= .int .i64 ((a+d:Nat):Int)/\S3 B b L cap lt D w wr z a) (fun x _ _=>L-(intOf x).toNat)
 case atStart=>exact ⟨0,by omega,rfl,by rw[Nat.zero_add],F.out⟩
 case round =>
 clear F;obtain⟨u,W,rfl,rfl,m⟩:=hrel;have j:Hid (S3 B b L cap lt D w wr z u):=m;clear m;have g:=M.out;obtain⟨r,o⟩:∃c,u+d=c:=⟨_,rfl⟩;obtain⟨v,p⟩:∃c,u+z=c:=⟨_,rfl⟩;have N:Hid (u+d=r/\u+z=v/\0<d):=⟨o,p,by omega⟩;have aa:IntKind.i64.wrap ((u:Int)+(z:Int))=(v:Int):=by rw[IntWalk.i64_in _ (by omega)];omega
 rw[o];by_cases T:r<=L
 ·have f:=zc3w t.out G j.out (by omega);rw[g,o,p]at f;unfold cvP at f;have U:(r:Int)<=(L:Int):=by omega
  have a3:IntKind.i64.wrap ((r:Int)+(d:Int))=((r+d:Nat):Int):=by rw[IntWalk.i64_in _ (by omega)];omega
  clear j g o p
  go_wp2_with fail
  refine f.mono ?_;rintro e J ⟨rfl,i⟩;have q:Hid (S3 B b L cap lt D w J z r):=i;clear f i;go_wp2;go_roundw
  case rel=>exact ⟨r,by omega,rfl,rfl,q.out⟩
  case measure=>have:=N.out;simp[intOf];omega
 ·have U:¬(r:Int)<=(L:Int):=by omega
  by_cases O:v<L
  ·have f:=zc3x t.out G j.out (by omega) (by omega);rw[g,p]at f;unfold cvP at f;have V:(v:Int)<(L:Int):=by omega
   have l:Hid (0<d/\d<=2*L+20/\z<d):=⟨by omega,by omega,by omega⟩;clear j g o p O
   go_wp2_with fail
   refine f.mono ?_;rintro e J ⟨rfl,i⟩;have q:Hid (S2 B b L cap lt D w J d):=i;clear f i;go_wp2;go_roundw
   case rel=>exact ⟨d,l.out.1,l.out.2.1,rfl,q.out⟩
   case measure=>have:=l.out;simp[intOf];omega
  ·have i:=zc3y t.out j.out (by omega);rw[g]at i;have q:Hid (S2 B b L cap lt D w wr d):=i;have V:¬(v:Int)<(L:Int):=by omega
   have l:Hid (0<d/\d<=2*L+20/\z<d):=⟨by omega,by omega,by omega⟩;clear j i g o p O;go_wp2;go_roundw
   case rel=>exact ⟨d,l.out.1,l.out.2.1,rfl,q.out⟩
   case measure=>have:=l.out;simp[intOf];omega
theorem zc4c (K:StK b L kl lt D w) (d:OwnP B w b L cap D) :
  Calls Tryz.prog 41 #[.slice (some ⟨b,0,none⟩) L cap,cvP] w fun e w'=>e= .returned (.tuple #[])/\SortP B b L cap [] D [] lt w w':=by
 have c:=zc4b K d;unfold cvP at c ⊢;clear K d
 go_enter Tryz.func41,Tryz.ntmps41
 go_wp2_with fail
 refine c.mono ?_;rintro e g ⟨rfl,f⟩;go_wp2;go_end0;exact⟨rfl,f⟩
end
theorem za9c (B:Nat) (f:Fl) (v:Value) (xs:List Gx) (w:World) (F:GrsIn B w v xs) (hB:B<=w.heap.size) (ak:GrOk xs) (h2:0<=f.2.2.1/\f.2.2.1<=1000000) (hl:xs.length<=900) (al:∀x∈xs,x.2.2.2.2.length<=900) :
  Calls Tryz.prog 40 #[v,flV f] w fun e w'=> ∃v' xs',e= .returned v'/\GrsIn B w' v' xs'/\xs'.map (·.2.2)=putG f (xs.map (·.2.2))/\Below B w w':=by
 have G:BL w (w.alloc (.cells #[.string f.1,.string f.2.1,.int .i64 f.2.2.1,.int .i64 f.2.2.2.1,.int .i64 f.2.2.2.2.1,.int .i64 f.2.2.2.2.2] 43)):=alB _ _;have H:=FlAt.new w f;have T:=F.below G;have U:=zc3j B f w.heap.size v xs _ T H ak h2 (by omega);obtain⟨q,an,hv⟩:=zb4 F.row;have C:Hid (GrOk xs):=ak;have D:Hid (∀x∈xs,x.2.2.2.2.length<=900):=al;obtain⟨L,hL⟩:∃L,xs.length=L:=⟨_,rfl⟩;have W:Hid (xs.length=L):=hL;rw[hL]at hv;subst hv;clear F ak al;unfold flV
 go_enter Tryz.func40,Tryz.ntmps40
 go_upto_region 1 with fail
 generalize w.alloc (.cells #[.string f.1,.string f.2.1,.int .i64 f.2.2.1,.int .i64 f.2.2.2.1,.int .i64 f.2.2.2.2.1,.int .i64 f.2.2.2.2.2] 43)=WA at G H T U ⊢;generalize w.heap.size=fb at H U ⊢
 go_wp2_with fail
 refine U.mono ?_;rintro e o ⟨i,rfl,hi,R⟩;clear U;have z:=T.below R;have A:=H.below R;have X:B<=WA.heap.size:=Nat.le_trans hB G.size;have t:B<=o.heap.size:=Nat.le_trans X R.size;have Y:Below B w o:=(G.mono hB).trans (R.mono X);clear G H T R X;rcases hi with⟨rfl,ap⟩|⟨n,hn,rfl,ai,aj,-⟩
 ·have Z:Hid (putG f (xs.map (·.2.2))=xs.map (·.2.2)++ [takeG f (f.2.1,0, [])]):=za8s f (by rw[List.any_map];exact ap);clear ap;have z1:=A.cells.2.1;obtain⟨v2,O,hr,u,E⟩:=z.more t f.2.1 rfl rfl (by omega);have aq:FlAt O fb f:=(E.block fb (lt_of_block A) (fun e=>by
   obtain⟨_,_,c,e2⟩:=za5 z.row e;exact zb0 A e2 (by decide) rfl)).trans A
  have aa:B<=O.heap.size:=Nat.le_trans t E.size;have ar:Below B w O:=Y.trans (E.below t (fun k r=>(za5 z.row r).1));have am:(Builtin.append_ #[84,84] 84 #[.slice q L an,.slice (some ⟨o.heap.size+1,0,none⟩) 1 1]).run Tryz.prog ((o.alloc (.cells #[.string f.2.1,.int .i64 0,.slice none 0 0] 90)).alloc (.cells #[.pointer (some ⟨o.heap.size,0,none⟩)] 88))= .ok v2 O:=hr;have ab:Hid (∀y∈xs++ [(o.heap.size,Value.slice none 0 0,((f.2.1,0, []):Gp))],(0<=y.2.2.2.1/\y.2.2.2.1<=1000000)/\y.2.2.2.2.length<=1000):=fun y I=>by
   rw[List.mem_append,List.mem_singleton]at I;rcases I with I | rfl
   ·exact⟨C.out y I,by have:=D.out y I;omega⟩
   ·exact⟨⟨by simp,by simp⟩,by simp⟩
  have ac:Hid (((xs++ [(o.heap.size,Value.slice none 0 0,((f.2.1,0, []):Gp))]).map (·.2.2)).set L (takeG f (f.2.1,0, []))=putG f (xs.map (·.2.2))):=by
   show _=_;rw[Z.out,List.map_append];have e:L=(xs.map (·.2.2)).length:=by rw[List.length_map,W.out]
   rw[e,List.set_append_right _ _ (Nat.le_refl _)];simp
  have hnx:L<(xs++ [(o.heap.size,Value.slice none 0 0,((f.2.1,0, []):Gp))]).length:=by rw[List.length_append,W.out];simp
  have I:(xs++ [(o.heap.size,Value.slice none 0 0,((f.2.1,0, []):Gp))])[L]'hnx=(o.heap.size,Value.slice none 0 0,(f.2.1,0, [])):=by
   have e:L=xs.length:=W.out.symm;subst e;simp
  have V:(xs++ [(o.heap.size,Value.slice none 0 0,((f.2.1,0, []):Gp))]).length=L+1:=by rw[List.length_append,W.out];rfl
  generalize au:xs++ [(o.heap.size,Value.slice none 0 0,((f.2.1,0, []):Gp))]=s at *;have J:Hid ((s.map (·.2.2)).set L (takeG f s[L].2.2)=putG f (xs.map (·.2.2))):=by
   show _=_;rw[I];exact ac.out
  have K:Hid (∀x∈s,0<=x.2.2.2.1/\x.2.2.2.1<=1000000):=fun x F=>(ab.out x F).1;have M:Hid (∀x∈s,x.2.2.2.2.length<=1000):=fun x F=>(ab.out x F).2;obtain⟨q2,c2,ad⟩:=zb4 u.row;rw[V]at ad;obtain⟨L2,ao⟩:∃k,L+1=k:=⟨_,rfl⟩;rw[ao]at ad;have av:(L:Int)<(L2:Int):=by omega
  have aw:(0:Int)<=(L:Int):=by omega
  subst ad;clear hr au E Z ac C D ab I V ao z Y A t
  go_upto_region 5 with(at_builtin;refine zd2 (by rfl) _ _ _ (by rfl) _ _ _ (by rfl) (by rfl) am ?_)
  clear am;have d:BL O O.drew:=(Below.refl _ _).drew;have p:=u.below d;obtain⟨b,hq,hc⟩:=p.at_ (fun e=>by rw[e]at hnx;simp at hnx);obtain⟨b',P,Q⟩:=u.at_ (fun e=>by rw[e]at hnx;simp at hnx);obtain rfl:b'=b:=by
   rw[hq]at P;injection P with e;injection e with e1 e2 e3;exact e1.symm
  subst hq;have c0:=hc _ hnx;have N:=Q _ hnx;have l:=p.cell _ (List.getElem_mem hnx);have m:=za8u B f s[L].2.2 s[L].1 s[L].2.1 O.drew l.1 l.2.2 (Nat.le_trans aa d.size) (K.out _ (List.getElem_mem _)) h2 (M.out _ (List.getElem_mem _));have g:Hid (∀w',TakeP B O.drew s[L].1 s[L].2.1 (takeG f s[L].2.2) w'->∃xs',GrsIn B w' (.slice (some ⟨b',0,none⟩) L2 c2) xs'/\xs'.map (·.2.2)=putG f (xs.map (·.2.2))/\Below B w w'):=fun w' hp=>by
   obtain⟨v2,u⟩:=p.took hnx hp;refine⟨_,u,?_,?_⟩
   ·rw[List.map_set];exact J.out
   ·obtain⟨_,_,_,ae,_⟩:=hp;exact(ar.trans (d.mono aa)).trans (ae.below (Nat.le_trans aa d.size) (fun k r=>by
     rcases r with r | r
     ·rw[r];exact l.2.1
     ·exact(za5 l.2.2 r).1))
  generalize takeG f s[L].2.2=TG at m g;generalize s[L]=x at c0 N m g;unfold ptG at c0 N;unfold flV at m;obtain⟨d0,d1,d2,d3,d4,d5,-⟩:=aq.cells;have s0:=za0 d d0;have s1:=za0 d d1;have s2:=za0 d d2;have s3:=za0 d d3;have s4:=za0 d d4;have s5:=za0 d d5;clear p hc Q l hnx d J K M
  first
   | (go_region_with (first | (go_at_call 94;refine m.mono ?_;rintro e w9 ⟨rfl,S⟩)))
   | fail
  all_goals obtain⟨xs',af,ag,ah⟩:=g.out w9 S
  all_goals clear m g S
  all_goals go_wp2
  all_goals go_ret
  all_goals exact⟨_,xs',rfl,af,ag,ah⟩
 ·have hnx:n<xs.length:=hn;have J:Hid ((xs.map (·.2.2)).set n (takeG f xs[n].2.2)=putG f (xs.map (·.2.2))):=by
   show _=_;rw[za8t f (gs:=xs.map (·.2.2)) (n:=n) (by simpa using hn) (by simpa using ai) (fun j hj hjn=>by have:=aj j (by simpa using hj) hjn;simpa using this)];simp
  have K:Hid (∀x∈xs,0<=x.2.2.2.1/\x.2.2.2.1<=1000000):=C.out;have M:Hid (∀x∈xs,x.2.2.2.2.length<=1000):=fun x F=>by have:=D.out x F;omega
  have av:(n:Int)<(L:Int):=by rw[W.out]at hn;omega
  have aw:(0:Int)<=(n:Int):=by omega
  clear ai aj C D
  go_upto_region 5 with fail
  have d:BL o o.drew:=(Below.refl _ _).drew;have p:=z.below d;obtain⟨b,hq,hc⟩:=p.at_ (fun e=>by rw[e]at hnx;simp at hnx);obtain⟨b',P,Q⟩:=z.at_ (fun e=>by rw[e]at hnx;simp at hnx);obtain rfl:b'=b:=by
   rw[hq]at P;injection P with e;injection e with e1 e2 e3;exact e1.symm
  subst hq;have c0:=hc _ hnx;have N:=Q _ hnx;have l:=p.cell _ (List.getElem_mem hnx);have m:=za8u B f xs[n].2.2 xs[n].1 xs[n].2.1 o.drew l.1 l.2.2 (Nat.le_trans t d.size) (K.out _ (List.getElem_mem _)) h2 (M.out _ (List.getElem_mem _));have g:Hid (∀w',TakeP B o.drew xs[n].1 xs[n].2.1 (takeG f xs[n].2.2) w'->∃xs',GrsIn B w' (.slice (some ⟨b',0,none⟩) L an) xs'/\xs'.map (·.2.2)=putG f (xs.map (·.2.2))/\Below B w w'):=fun w' hp=>by
   obtain⟨v2,u⟩:=p.took hnx hp;refine⟨_,u,?_,?_⟩
   ·rw[List.map_set];exact J.out
   ·obtain⟨_,_,_,ae,_⟩:=hp;exact(Y.trans (d.mono t)).trans (ae.below (Nat.le_trans t d.size) (fun k r=>by
     rcases r with r | r
     ·rw[r];exact l.2.1
     ·exact(za5 l.2.2 r).1))
  generalize takeG f xs[n].2.2=TG at m g;generalize xs[n]=x at c0 N m g;unfold ptG at c0 N;unfold flV at m;obtain⟨d0,d1,d2,d3,d4,d5,-⟩:=A.cells;have s0:=za0 d d0;have s1:=za0 d d1;have s2:=za0 d d2;have s3:=za0 d d3;have s4:=za0 d d4;have s5:=za0 d d5;clear p hc Q l hnx d J K M
  first
   | (go_region_with (first | (go_at_call 94;refine m.mono ?_;rintro e w9 ⟨rfl,S⟩)))
   | fail
  all_goals obtain⟨xs',af,ag,ah⟩:=g.out w9 S
  all_goals clear m g S
  all_goals go_wp2
  all_goals go_ret
  all_goals exact⟨_,xs',rfl,af,ag,ah⟩
def sevG (gs:List Gp):List (List ByteArray):=(gs.filter fun g=>decide (1<g.2.2.length)).map (·.2.2)
def TssAt (W:World) (v:Value) (ls:List (List ByteArray)):Prop :=
 ∃vs:List Value,vs.length=ls.length/\((v= .slice none 0 0/\ls= [])\/∃b cap,v= .slice (some ⟨b,0,none⟩) ls.length cap/\∀j (h:j<vs.length),W.cell? ⟨b,j,none⟩=some vs[j])/\∀j (h:j<vs.length) (h':j<ls.length),TsAt W vs[j] ls[j]
theorem TssAt.form {W:World} {v:Value} {d:List (List ByteArray)} (h:TssAt W v d):∃q c,v= .slice q d.length c:=by
 obtain⟨_,_,⟨rfl,rfl⟩|⟨b,f,rfl,_⟩,_⟩:=h
 ·exact⟨_,_,rfl⟩
 ·exact⟨_,_,rfl⟩
theorem TssAt.below {W f:World} {v:Value} {g:List (List ByteArray)} (h:TssAt W v g) (i:BL W f):TssAt f v g:=by
 obtain⟨k,l,c,m⟩:=h;refine⟨k,l,?_,fun j a b=>(m j a b).below i⟩;rcases c with c | ⟨b,d,e,n⟩
 ·exact Or.inl c
 ·exact Or.inr ⟨b,d,e,fun j h=>za0 i (n j h)⟩
def sevN (xs:List Gx) (n:Nat):List Value:=((xs.take n).filter fun x=>decide (1<x.2.2.2.2.length)).map (·.2.1)
theorem zc4d {xs:List Gx} {n:Nat} (h:n<xs.length) (e:1<xs[n].2.2.2.2.length):sevN xs (n+1)=sevN xs n++ [xs[n].2.1]:=by
 unfold sevN;rw[List.take_succ_eq_append_getElem h,List.filter_append,List.map_append];simp[e]
theorem zc4e {xs:List Gx} {n:Nat} (h:n<xs.length) (e:¬1<xs[n].2.2.2.2.length):sevN xs (n+1)=sevN xs n:=by
 unfold sevN;rw[List.take_succ_eq_append_getElem h,List.filter_append,List.map_append];simp[e]
theorem zc4f (xs:List Gx) (n:Nat):(sevN xs n).length<=xs.length:=by
 unfold sevN;rw[List.length_map];have b:=List.length_filter_le (fun x:Gx=>decide (1<x.2.2.2.2.length)) (xs.take n);have c:=List.length_take_le' n xs;omega
theorem zc4g (xs:List Gx):sevG (xs.map (·.2.2))=((xs.filter fun x=>decide (1<x.2.2.2.2.length))).map (fun x=>x.2.2.2.2):=by
 unfold sevG;rw[List.filter_map,List.map_map];rfl
theorem Tryz.txsInfo3:(Tryz.prog.info? 39).map (fun i=>(i.zero,i.size,i.bytes))=some (some (.slice none 0 0),1,24):=by kernel_rfl
theorem Tryz.txsInfo:∃i0:TypeInfo,Tryz.prog.info? 39=some i0/\i0.zero=some (.slice none 0 0)/\i0.size=1/\i0.bytes=24:=by
 have h:=Tryz.txsInfo3
 cases b:Tryz.prog.info? 39 with
 | none=>rw [b]at h;simp at h
 | some i =>
  rw[b]at h;simp only[Option.map_some,Option.some.injEq,Prod.mk.injEq]at h;exact⟨i,rfl,h.1,h.2.1,h.2.2⟩
theorem zc4h {B:Nat} {W d:World} {v:Value} {b:List Value} (s:W.ownsRow B 39 1 v b.length b) (t:B<=W.heap.size) (u:Value) (y:u.oneCell'=true) (f:d=W.alloc (.cells #[u] 39)) (z:b.length<=1000) :
  ∃v' W2,(Builtin.append_ #[33,33] 33 #[v,.slice (some ⟨W.heap.size,0,none⟩) 1 1]).run Tryz.prog d= .ok v' W2/\W2.ownsRow B 39 1 v' (b++ [u]).length (b++ [u])/\But (fun k=>v.ownBlock=some k) W W2:=by
 obtain⟨l,m,n,o,i⟩:=Tryz.txsInfo;have c:BL W d:=by rw[f];exact alB _ _
 have g:Src d (some ⟨W.heap.size,0,none⟩) 1 1 [u]:=by
  rw[f];exact zi9 W [u] 39 1 1
 obtain⟨v',W2,p,q,r,A⟩:=zf1 (P:=Tryz.prog) d B 33 33 39 l (.slice none 0 0) 1 24 Tryz.underlying33 m n o i rfl (by decide) v b.length b (za8 (P:=fun _=>False) s (But.of_below c) (fun _ _ h=>h)) (some ⟨W.heap.size,0,none⟩) 1 1 [u] rfl g (by intro C j;rw[List.mem_singleton]at j;subst j;exact y) (by unfold maxLen;omega) (by omega) (Nat.le_trans t c.size);refine⟨v',W2,p,?_,(But.of_below c).trans (But.grown r) (fun _ h _=>h)⟩;rw[List.length_append];exact q
theorem zc4i {B:Nat} {W:World} {v:Value} {xs:List Gx} {o:Nat} {p:Value} (i:W.ownsRow B 39 1 v (sevN xs xs.length).length (sevN xs xs.length)) (q:GrsIn o W p xs):TssAt W v (sevG (xs.map (·.2.2))):=by
 have k:sevN xs xs.length=(xs.filter fun x=>decide (1<x.2.2.2.2.length)).map (·.2.1):=by unfold sevN;rw[List.take_length]
 rw[k]at i;rw[zc4g];refine⟨(xs.filter fun x=>decide (1<x.2.2.2.2.length)).map (·.2.1),by simp,?_,fun j h h'=>?_⟩
 ·rcases i.2 with⟨b,c⟩|⟨g,d,f,b,_,m,r,_,_,n⟩
  ·refine Or.inl ⟨b,?_⟩;rw[List.length_map]at c;rw[List.length_eq_zero_iff.1 c];rfl
  ·rw[List.length_map]at b;refine Or.inr ⟨g,d,by rw[b,List.length_map],fun j hj=>?_⟩;rw[cell_of_row _ _ _ _ _ _ m];have e:(f.toList.take (((xs.filter fun x=>decide (1<x.2.2.2.2.length)).map (·.2.1)).length*1))[j]? =((xs.filter fun x=>decide (1<x.2.2.2.2.length)).map (·.2.1))[j]? :=by rw[n]
   rw[List.getElem?_take,if_pos (by omega),Array.getElem?_toList]at e;rw[e,List.getElem?_eq_getElem hj]
 ·simp only[List.getElem_map];have l:(xs.filter fun x=>decide (1<x.2.2.2.2.length))[j]'(by simpa using h)∈xs:=(List.mem_filter.1 (List.getElem_mem _)).1;exact zg1 (q.cell _ l).2.2
theorem za1e (B:Nat) (v:Value) (xs:List Gx) (w:World) (r:GrsIn B w v xs) (M:xs.length<=900) :
  Calls Tryz.prog 44 #[v] w fun e w'=> ∃v',e= .returned v'/\TssAt w' v' (sevG (xs.map (·.2.2)))/\BL w w':=by
 obtain⟨q,H,rfl⟩:=zb4 r.row;have g:Hid (∀W,BL w W->GrsIn B W (.slice q xs.length H) xs):=fun W f=>r.below f;have A:Hid (∀x∈xs,∃q c,x.2.1= .slice q x.2.2.2.2.length c):=fun x hxm=>zb4 (r.cell x hxm).2.2;have C:Hid (∀n,(sevN xs n).length<=900):=fun n=>Nat.le_trans (zc4f xs n) M;obtain⟨L,z⟩:∃L,xs.length=L:=⟨_,rfl⟩;have D:Hid (xs.length=L):=z;rw[z]at M g ⊢;clear z r
 go_enter Tryz.func44,Tryz.ntmps44
 go_wp2
 go_loopw [3,8] (fun u k wr=> ∃n:Nat,n<=L/\k= .int .i64 n/\wr.ownsRow w.heap.size 39 1 u (sevN xs n).length (sevN xs n)/\BL w wr) (fun _ k _=>L-(intOf k).toNat)
 case atStart=>exact ⟨0,by omega,rfl,World.ownsRow_nil _ _ _ _,Below.refl _ _⟩
 case round =>
  obtain⟨n,hn,rfl,I,f⟩:=hrel;have i:Hid (wr.ownsRow w.heap.size 39 1 u3 (sevN xs n).length (sevN xs n)):=I;clear I;by_cases E:n<L
  ·have d:n<xs.length:=by rw[D.out];exact E
   obtain⟨b,T,J⟩:=(g.out wr f).at_ (fun e=>by rw[e]at d;simp at d);subst T;have F:=J n d;have s:=(g.out wr f).cell xs[n] (List.getElem_mem _);have N:=s.1.cells.2.2.1;have hi:(n:Int)<(L:Int):=by omega
   have O:(0:Int)<=(n:Int):=by omega
   obtain⟨U,V,t⟩:=A.out xs[n] (List.getElem_mem _);have l:Hid (1<xs[n].2.2.2.2.length->sevN xs (n+1)=sevN xs n++ [xs[n].2.1]):=fun e=>zc4d d e;have m:Hid (¬1<xs[n].2.2.2.2.length->sevN xs (n+1)=sevN xs n):=fun e=>zc4e d e;generalize xs[n]=x at F N t l m;unfold ptG at F;clear J d s;obtain⟨xb,xv,X⟩:=x;dsimp only at *;subst t;generalize X.2.2.length=p at *;by_cases o:1<p
   ·have P:(1:Int)<(p:Int):=by omega
    obtain⟨v',K,Y,y,j⟩:=zc4h i.out f.size (.slice U p V) rfl rfl (by have:=C.out n;omega);have G:BL w K:=f.trans (j.below f.size (fun k hk=>(za5 i.out hk).1));have Q:Hid (K.ownsRow w.heap.size 39 1 v' (sevN xs (n+1)).length (sevN xs (n+1))):=by
     show World.ownsRow _ _ _ _ _ _ _;rw[l.out o];exact y
    clear l m y j i o
    go_wp2_with (at_builtin;refine zd2 (by rfl) _ _ _ (by rfl) _ _ _ (by rfl) (by rfl) Y ?_)
    go_roundw
    case rel=>exact ⟨n+1,by omega,by go_num,Q.out,G⟩
    case measure=>simp [intOf];omega
   ·have P:¬(1:Int)<(p:Int):=by omega
    have R:Hid (sevN xs (n+1)=sevN xs n):=m.out o;clear l m o;go_wp2;go_roundw
    case rel=>exact ⟨n+1,by omega,by go_num,by rw[R.out];exact i.out,f⟩
    case measure=>simp [intOf];omega
  ·obtain rfl:n=L:=by omega
   have S:Hid (TssAt wr u3 (sevG (xs.map (·.2.2)))):=zc4i (by rw[D.out];exact i.out) (g.out wr f);have Z:¬(n:Int)<(n:Int):=by omega
   clear i;go_wp2;go_ret;exact⟨_,rfl,S.out,f⟩
theorem zc4j (q:Option Addr) (n c:Nat) (cv:Value) (h:n<=1) (w:World) :
  Calls Tryz.prog 136 #[.slice q n c,.int .i64 0,.int .i64 n,cv] w fun e w'=>e= .returned (.tuple #[])/\w'=w:=by
 have b:¬(1:Int)<(n:Int):=by omega
 go_enter Tryz.func136,Tryz.ntmps136
 go_wp2;refine wp_loop_rounds 1 ?_;rw[rounds_succ];go_wp2;go_end0;exact⟨rfl,rfl⟩
theorem zc4k (q:Option Addr) (n c:Nat) (cv:Value) (h:n<=1) (w:World) :
  Calls Tryz.prog 95 #[.slice q n c,.int .i64 n,cv] w fun e w'=>e= .returned (.tuple #[])/\w'=w:=by
 have d:¬(20:Int)<=(n:Int):=by omega
 have f:¬(20:Int)<(n:Int):=by omega
 have b:=zc4j q n c cv h w;clear h
 go_enter Tryz.func95,Tryz.ntmps95
 go_wp2;refine wp_loop_rounds 1 ?_;rw[rounds_succ]
 go_wp2_with fail
 refine b.mono ?_;rintro e g ⟨rfl,rfl⟩;go_wp2;refine wp_loop_rounds 1 ?_;rw[rounds_succ];go_wp2;go_end0;exact⟨rfl,rfl⟩
theorem za9d (q:Option Addr) (n c:Nat) (cv:Value) (h:n<=1) (w:World) :
  Calls Tryz.prog 41 #[.slice q n c,cv] w fun e w'=>e= .returned (.tuple #[])/\w'=w:=by
 have b:=zc4k q n c cv h w
 go_enter Tryz.func41,Tryz.ntmps41
 go_wp2_with fail
 refine b.mono ?_;rintro e d ⟨rfl,rfl⟩;go_wp2;go_end0;exact⟨rfl,rfl⟩
def fewB (least:Int) (f:Fl):Bool:= !goneP f.1 && decide (f.2.2.1<least)
def plN (fs:List Fl) (least:Int) (n:Nat):List Gp:=((fs.take n).filter (fewB least)).foldl (fun gs f=>putG f gs) []
theorem zn3 {b:List Fl} {least:Int} {n:Nat} (h:n<b.length) (e:fewB least b[n]=true):plN b least (n+1)=putG b[n] (plN b least n):=by
 unfold plN;rw[List.take_succ_eq_append_getElem h,List.filter_append,List.foldl_append];simp[e]
theorem za1f {b:List Fl} {least:Int} {n:Nat} (h:n<b.length) (e:fewB least b[n]=false):plN b least (n+1)=plN b least n:=by
 unfold plN;rw[List.take_succ_eq_append_getElem h,List.filter_append,List.foldl_append];simp[e]
def GsOk (n:Nat) (gs:List Gp):Prop:=gs.length<=n/\∀g∈gs,(0<=g.2.1/\g.2.1<=40)/\g.2.2.length<=n
theorem GsOk.mono {n:Nat} {gs:List Gp} (h:GsOk n gs):GsOk (n+1) gs:=⟨by have:=h.1;omega,fun g hg=>⟨(h.2 g hg).1,by have:=(h.2 g hg).2;omega⟩⟩
theorem za9e {f:Fl} (d:0<=f.2.2.1/\f.2.2.1<=40):∀ {n:Nat} {gs:List Gp},GsOk n gs->GsOk (n+1) (putG f gs)
 | n, [],_=>⟨by simp[putG],fun g b=>by
  rw[putG,List.mem_singleton]at b;subst b;unfold takeG;exact⟨by simpa using d,by simp⟩⟩
 | n,g :: r,h=>by
  have b:=h.2 g List.mem_cons_self;unfold putG;by_cases e:fitG f g=true
  ·rw[if_pos e];refine⟨by have:=h.1;simpa using Nat.le_succ_of_le this,fun x c=>?_⟩;rcases List.mem_cons.1 c with rfl | c
   ·unfold fitG at e;rw[Bool.and_eq_true,decide_eq_true_eq,decide_eq_true_eq]at e;unfold takeG;exact⟨⟨by show 0<=g.2.1+f.2.2.1;omega,e.2⟩,by simp only[List.length_append,List.length_singleton];omega⟩
   ·have:=h.2 x (List.mem_cons_of_mem _ c);exact⟨this.1,by omega⟩
  ·rw[if_neg e];have l:r.length+1<=n:=by have:=h.1;simpa using this
   obtain⟨k,rfl⟩:∃k,n=k+1:=⟨n-1,by omega⟩;have m:=putG_len f r;have i:=putG_mem (f:=f) (n:=k+1) d r (fun x c=>h.2 x (List.mem_cons_of_mem _ c));refine⟨by simp only[List.length_cons];omega,fun x c=>?_⟩;rcases List.mem_cons.1 c with rfl | c
   ·exact⟨b.1,by omega⟩
   ·exact i x c
 where
 putG_len (f:Fl):∀gs:List Gp,(putG f gs).length<=gs.length+1
  | []=>by simp[putG]
  | g :: r=>by
   unfold putG;split
   ·simp
   ·have:=putG_len f r;simp only[List.length_cons];omega
 putG_mem {f:Fl} {n:Nat} (d:0<=f.2.2.1/\f.2.2.1<=40):∀gs:List Gp,(∀g∈gs,(0<=g.2.1/\g.2.1<=40)/\g.2.2.length<=n)->∀g∈putG f gs,(0<=g.2.1/\g.2.1<=40)/\g.2.2.length<=n+1
  | [],_,g,b=>by
   rw[putG,List.mem_singleton]at b;subst b;unfold takeG;exact⟨by simpa using d,by simp⟩
  | a :: r,h,g,b=>by
   have j:=h a List.mem_cons_self;unfold putG at b;by_cases e:fitG f a=true
   ·rw[if_pos e]at b;rcases List.mem_cons.1 b with rfl | b
    ·unfold fitG at e;rw[Bool.and_eq_true,decide_eq_true_eq,decide_eq_true_eq]at e;unfold takeG;exact⟨⟨by show 0<=a.2.1+f.2.2.1;omega,e.2⟩,by simp only[List.length_append,List.length_singleton];omega⟩
    ·have:=h g (List.mem_cons_of_mem _ b);exact⟨this.1,by omega⟩
   ·rw[if_neg e]at b;rcases List.mem_cons.1 b with rfl | b
    ·exact⟨j.1,by omega⟩
    ·exact putG_mem d r (fun x c=>h x (List.mem_cons_of_mem _ c)) g b
theorem za1g {b:List Fl} {least:Int} (c:∀f∈b,0<=f.2.2.1/\f.2.2.1<=40):∀n,n<=b.length->GsOk n (plN b least n)
 | 0,_=>⟨by simp[plN],fun g hg=>by simp[plN]at hg⟩
 | n+1,h=>by
  have d:=za1g (least:=least) c n (by omega)
  cases e:fewB least (b[n]'(by omega)) with
  | true=>rw [zn3 (by omega) e];exact za9e (c _ (List.getElem_mem _)) d
  | false=>rw [za1f (by omega) e];exact d.mono
theorem zn4 {f:Fl} (h:fileE f=0):0<=f.2.2.1/\f.2.2.1<=40:=by
 obtain⟨_,_,_,_,b⟩:=zh0 h;unfold bndB at b;simp only[Bool.and_eq_true,decide_eq_true_eq]at b;omega
theorem zc4l (v:Value) (c:List Fl) (least:Int) (w:World) (a:Nat->Addr) (h:EnvL w a) (l:FlsAt w v c) (hl:c.length<=100) (S:Short c) (hE:(listE c).1=0) (aq:0<=least) (ar:least<=41) (B:(plN c least c.length).length<=1) :
  Calls Tryz.prog 10 #[v,.int .i64 least] w fun e w'=> ∃v',e= .returned (.tuple #[v',.nilIface])/\TssAt w' v' (sevG (plN c least c.length))/\BL w w':=by
 have I:=zn1 v c w a h l hl S;have ag:Hid (∀W,BL w W->EnvN W a):=fun W j=>h.file.env.below j;have HX:Hid (∀W,BL w W->FlsAt W v c):=fun W j=>l.below j;have U:Hid (∀f∈c,0<=f.2.2.1/\f.2.2.1<=40):=fun f hf=>zn4 ((ze9.1 hE).2.1 f hf).1;have V:Hid (∀f∈c,∀W,BL w W->Calls Tryz.prog 39 #[flV f] W fun e w'=>e= .returned (.bool (goneP f.1))/\BL W w'):=fun f hf W j=>zh9 f W a (ag.out W j) (by have:=(S f hf).1;omega);obtain⟨q,ap,rfl⟩:=l.form;obtain⟨L,hL⟩:∃L,c.length=L:=⟨_,rfl⟩;have HL:Hid (c.length=L):=hL;have J:Hid (∀n,n<=L->GsOk n (plN c least n)):=fun n hn=>za1g U.out n (by omega);have al:L<=100:=by omega
 rw[hL]at I HX B ⊢;clear l hl hL S h
 go_enter Tryz.func10,Tryz.ntmps10
 go_wp2_with fail
 refine I.mono ?_;rintro e w1 ⟨ev,rfl,ht,R⟩;obtain rfl:=ht.ok hE;clear I ht hE
 go_wp2_with fail
 go_loopw [7,24] (fun u k wr=> ∃(n:Nat) (d:List Gx),n<=L/\k= .int .i64 n/\GrsIn w.heap.size wr u d/\d.map (·.2.2)=plN c least n/\BL w wr) (fun _ k _=>L-(intOf k).toNat)
 case atStart=>exact ⟨0, [],by omega,rfl,GrsIn.nil _ _,rfl,R⟩
 case round =>
 clear R;obtain⟨n,d,hn,rfl,hG,hm,j⟩:=hrel;have y:Hid (d.map (·.2.2)=plN c least n):=hm;have K:Hid (GrsIn w.heap.size wr u7 d):=hG;clear hm hG;by_cases ah:n<L
 case neg =>
  obtain rfl:n=L:=by omega
  have am:¬(n:Int)<(n:Int):=by omega
  have X:d.length<=1:=by
   have e:=congrArg List.length y.out;rw[List.length_map]at e;omega
  obtain⟨q7,c7,aj⟩:=zb4 K.out.row;have M:=za1e w.heap.size u7 d wr K.out (by omega);rw[y.out]at M;subst aj;have Y:=fun cv=>za9d q7 d.length c7 cv X wr;generalize d.length=XL at *;clear K y X B J
  go_upto_region 13 with fail
  go_wp2_with fail
  refine(Y _).mono ?_;rintro e w2 ⟨rfl,rfl⟩;clear Y
  go_wp2_with fail
  refine M.mono ?_;rintro e H ⟨v3,rfl,ac,s⟩;clear M;have ai:Hid (TssAt H v3 (sevG (plN c least n))):=ac;have p:BL w H:=trB j s;clear ac;go_wp2;refine bodyPost_ret (v:=.tuple #[v3,.nilIface]) (by simp[results,Tryz.results10,go_sem]) rfl ?_;exact⟨_,rfl,ai.out,p⟩
 case pos =>
  have i:n<c.length:=by rw[HL.out];exact ah
  obtain⟨b,o,hq,hc⟩:=(HX.out wr j).cells (fun e=>by rw[e]at i;simp at i);subst hq;obtain⟨c0,c1,c2,c3,c4,c5⟩:=hc n i;have an:(n:Int)<(L:Int):=by omega
  have ao:(0:Int)<=(n:Int):=by omega
  have z:Hid (fewB least c[n]=true->plN c least (n+1)=putG c[n] (plN c least n)):=fun e=>zn3 i e;have r:Hid (fewB least c[n]=false->plN c least (n+1)=plN c least n):=fun e=>za1f i e;have Z:=U.out c[n] (List.getElem_mem _);have N:=V.out c[n] (List.getElem_mem _);have C:=J.out n (by omega);have D:Hid (GrOk d/\d.length<=900/\∀x∈d,x.2.2.2.2.length<=900):=by
   have e:=y.out;have el:d.length=(plN c least n).length:=by rw[<-e,List.length_map]
   have em:∀x∈d,x.2.2∈plN c least n:=fun x l=>by rw[<-e];exact List.mem_map.2 ⟨x,l,rfl⟩
   exact⟨fun x l=>by have:=(C.2 _ (em x l)).1;omega,by have:=C.1;omega,fun x l=>by have:=(C.2 _ (em x l)).2;omega⟩
  generalize c[n]=g at c0 c1 c2 c3 c4 c5 z r N Z;have O:BL wr (wr.alloc (.cells #[.string g.1,.string g.2.1,.int .i64 g.2.2.1,.int .i64 g.2.2.2.1,.int .i64 g.2.2.2.2.1,.int .i64 g.2.2.2.2.2] 43)):=alB _ _;have P:=FlAt.new wr g;have Q:BL w (wr.alloc (.cells #[.string g.1,.string g.2.1,.int .i64 g.2.2.1,.int .i64 g.2.2.2.1,.int .i64 g.2.2.2.2.1,.int .i64 g.2.2.2.2.2] 43)):=trB j O;have aa:Hid (GrsIn w.heap.size (wr.alloc (.cells #[.string g.1,.string g.2.1,.int .i64 g.2.2.1,.int .i64 g.2.2.2.1,.int .i64 g.2.2.2.2.1,.int .i64 g.2.2.2.2.2] 43)) u7 d):=K.out.below O;clear hc i K O j C J B
  go_upto_region 10 with fail
  clear c0 c1 c2 c3 c4 c5;generalize wr.alloc (.cells #[.string g.1,.string g.2.1,.int .i64 g.2.2.1,.int .i64 g.2.2.2.1,.int .i64 g.2.2.2.2.1,.int .i64 g.2.2.2.2.2] 43)=W2 at *;generalize wr.heap.size=gb at *;obtain⟨d0,d1,d2,d3,d4,d5,-⟩:=P.cells;have A:=N W2 Q;unfold flV at A;clear N V
  go_wp2_with fail
  refine A.mono ?_;rintro e H ⟨rfl,s⟩;clear A d0 d1 d2 d3 d4 d5;have p:BL w H:=trB Q s;have E:Hid (GrsIn w.heap.size H u7 d):=aa.out.below s;obtain⟨d0,d1,d2,d3,d4,d5,-⟩:=(P.below s).cells;clear aa s Q P;cases t:goneP g.1
  case true =>
   have G:Hid (plN c least (n+1)=plN c least n):=r.out (by unfold fewB;rw[t];rfl);clear t z r;go_wp2;go_roundw
   case rel=>exact ⟨n+1,d,by omega,by go_num,E.out,by rw[G.out];exact y.out,p⟩
   case measure=>simp [intOf];omega
  case false =>
   by_cases ab:g.2.2.1<least
   ·have G:Hid (plN c least (n+1)=putG g (plN c least n)):=z.out (by unfold fewB;rw[t,decide_eq_true ab];rfl);have F:=za9c w.heap.size g u7 d H E.out p.size D.out.1 ⟨Z.1,by omega⟩ D.out.2.1 D.out.2.2;rw[y.out,<-G.out]at F;unfold flV at F;clear t z r D E
    go_wp2_with fail
    refine F.mono ?_;rintro e w4 ⟨v4,ak,rfl,ad,ae,af⟩;have HR:Hid (∃(m:Nat) (T:List Gx),m<=L/\Value.int .i64 ((n:Int)+1)= .int .i64 m/\GrsIn w.heap.size w4 v4 T/\T.map (·.2.2)=plN c least m/\BL w w4):=⟨n+1,ak,by omega,by go_num,ad,ae,p.trans af⟩;clear F ad ae af y G d0 d1 d2 d3 d4 d5;go_wp2;go_roundw
    case rel =>
     obtain⟨m,T,g1,g2,g3,g4,g5⟩:=HR.out;exact⟨m,T,g1,g2,g3,g4,g5⟩
    case measure=>simp [intOf];omega
   ·have G:Hid (plN c least (n+1)=plN c least n):=r.out (by unfold fewB;rw[t,decide_eq_false ab];rfl);clear t z r;go_wp2;go_roundw
    case rel=>exact ⟨n+1,d,by omega,by go_num,E.out,by rw[G.out];exact y.out,p⟩
    case measure=>simp [intOf];omega
theorem zc4m (d f:Gp) (x y:Nat) (l m:Value) (w:World) (g:GrC w x d l) (i:GrC w y f m) :
  Calls Tryz.prog 42 #[pN x,pN y] w fun e w'=>e= .returned (.int .i64 (Lib.compareBytes d.1.data.toList f.1.data.toList))/\BL w w':=by
 have j:=g.cells.1;have k:=i.cells.1;have c:=Tryz.strings_Compare d.1 f.1;unfold pN;generalize d.1=a at j c ⊢;generalize f.1=b at k c ⊢;generalize Lib.compareBytes a.data.toList b.data.toList=n at c ⊢;clear g i
 go_enter Tryz.func42,Tryz.ntmps42
 go_upto_region 1 with fail
 go_quiet (first | (go_at_call 43;exact Calls.quiet_of_same (c _)))
 go_wp2;go_ret;exact⟨rfl,za4 (Below.refl _ _) _⟩
def grO (xs:List Gx) (x:Nat):Gx:=(xs.find? fun g=>g.1 == x).getD (x,.slice none 0 0,(⟨#[]⟩,0, []))
theorem za9f (xs:List Gx) (x:Nat):(grO xs x).1=x:=by
 unfold grO
 cases h:xs.find? fun g=>g.1 == x with
 | none=>rfl
 | some g =>
  have:=List.find?_some h;simpa using this
theorem zt0 {xs:List Gx} (n:xs.Pairwise fun x y=>x.1≠y.1) {g:Gx} (k:g∈xs):grO xs g.1=g:=by
 unfold grO
 cases h:xs.find? fun y=>y.1 == g.1 with
 | none =>
  have:=List.find?_eq_none.1 h g k;simp at this
 | some y =>
  have l:=List.find?_some h;have m:=List.mem_of_find?_eq_some h;have e:y.1=g.1:=by simpa using l
  obtain⟨i,d,rfl⟩:=List.mem_iff_getElem.1 m;obtain⟨j,f,rfl⟩:=List.mem_iff_getElem.1 k;have c:=List.pairwise_iff_getElem.1 n;rcases Nat.lt_trichotomy i j with b | b | b
  ·exact absurd e (c i j d f b)
  ·subst b;rfl
  ·exact absurd e.symm (c j i f d b)
def keyG (xs:List Gx) (x:Nat):List UInt8:=(grO xs x).2.2.1.data.toList
def klO (xs:List Gx) (x y:Nat):Bool:=decide (Lib.compareBytes (keyG xs x) (keyG xs y)<0)
def ixO:List Nat->Nat->Nat
 | [],_=>0
 | a :: r,x=>if a=x then 0 else ixO r x+1
theorem zt1:∀ {D:List Nat},(D.Pairwise fun x y=>x≠y)->∀k (hk:k<D.length),ixO D D[k]=k
 | [],_,k,hk=>by simp at hk
 | a :: r,h,0,_=>by simp[ixO]
 | a :: r,h,k+1,hk=>by
  rw[List.pairwise_cons]at h;have b:k<r.length:=by simpa using hk
  have c:a≠r[k]:=h.1 _ (List.getElem_mem _);have e:ixO (a :: r) ((a :: r)[k+1])=if a=r[k] then 0 else ixO r r[k]+1:=rfl;rw[e,if_neg c,zt1 h.2 k b]
def ltO (xs:List Gx) (x y:Nat):Prop:=Lib.compareBytes (keyG xs x) (keyG xs y)<0\/(Lib.compareBytes (keyG xs x) (keyG xs y)<=0/\ixO (xs.map (·.1)) x<ixO (xs.map (·.1)) y)
theorem zc4n (xs:List Gx):∀x y z,ltO xs x y->ltO xs y z->ltO xs x z:=fun x y z b c=>by
 have d:Lib.compareBytes (keyG xs x) (keyG xs y)<=0:=by
  rcases b with h | h
  ·omega
  ·exact h.1
 have f:Lib.compareBytes (keyG xs y) (keyG xs z)<=0:=by
  rcases c with h | h
  ·omega
  ·exact h.1
 obtain⟨i,g⟩:=zo1 _ _ _ d f;unfold ltO;rcases b with b | b
 ·exact Or.inl (g (Or.inl b))
 ·rcases c with c | c
  ·exact Or.inl (g (Or.inr c))
  ·exact Or.inr ⟨i,by omega⟩
theorem zc4o {xs:List Gx} (l:xs.Pairwise fun x y=>x.1≠y.1):(xs.map (·.1)).Pairwise (Agree (klO xs) (ltO xs)):=by
 have b:(xs.map (·.1)).Pairwise fun x y=>x≠y:=by rw[List.pairwise_map];exact l
 rw[List.pairwise_iff_getElem];intro i j f g d;have m:=List.pairwise_iff_getElem.1 b;have c:∀k (hk:k<(xs.map (·.1)).length),ixO (xs.map (·.1)) (xs.map (·.1))[k]=k:=fun k hk=>zt1 b k hk;unfold Agree klO ltO;rw[c i f,c j g];constructor
 ·intro h;exact Or.inl (of_decide_eq_true h)
 ·intro h;have n:=of_decide_eq_false h;have o:=zk3 (keyG xs (xs.map (·.1))[i]) (keyG xs (xs.map (·.1))[j]);exact Or.inr ⟨by omega,d⟩
theorem GrsIn.dist {B:Nat} {W:World} {v:Value} {xs:List Gx} (h:GrsIn B W v xs):xs.Pairwise fun x y=>x.1≠y.1:=h.ap.imp fun h=>h.1
theorem zc4p {B:Nat} {W:World} {b L c:Nat} {xs:List Gx} (h:GrsIn B W (.slice (some ⟨b,0,none⟩) L c) xs) (f:xs.length=L):OwnP B W b L c (xs.map (·.1)):=by
 have d:=h.row;rw[f]at d;have e:xs.map ptG=(xs.map (·.1)).map pN:=by rw[List.map_map];rfl
 unfold OwnP;rw[<-e];exact d
theorem za1h {B:Nat} {W:World} {b L i:Nat} {xs:List Gx} (h:GrsIn B W (.slice (some ⟨b,0,none⟩) L i) xs):∀x∈xs,x.1≠b/\∀k,x.2.1.ownBlock=some k->k≠b:=fun x hx=>by
 obtain⟨_,_,c,f⟩:=za5 h.row (k:=b) rfl;have d:=h.cell x hx;refine⟨zb0 d.1 f (by decide),fun k hk=>?_⟩;obtain⟨_,_,j,g⟩:=za5 d.2.2 hk;exact zb0 g f (by decide)
theorem zc4q {B:Nat} {W:World} {b L i:Nat} {xs:List Gx} (h:GrsIn B W (.slice (some ⟨b,0,none⟩) L i) xs):AskC b (klO xs) (xs.map (·.1)) W:=fun x hx y hy W' hW=>by
 obtain⟨g,f,rfl⟩:=List.mem_map.1 hx;obtain⟨c,d,rfl⟩:=List.mem_map.1 hy;have j:=(h.cell g f).1.but hW (za1h h g f).1;have k:=(h.cell c d).1.but hW (za1h h c d).1;refine(zc4m g.2.2 c.2.2 g.1 c.1 g.2.1 c.2.1 W' j k).mono fun e w' ⟨he,hb⟩=>⟨_,he,?_,hb⟩;unfold klO keyG;rw[zt0 h.dist f,zt0 h.dist d]
theorem zc4r {B:Nat} {W n:World} {b L c:Nat} {xs:List Gx} (h:GrsIn B W (.slice (some ⟨b,0,none⟩) L c) xs) (u:xs.length=L) (v:SortP B b L c [] (xs.map (·.1)) [] (ltO xs) W n):∃ys,GrsIn B n (.slice (some ⟨b,0,none⟩) L c) ys/\ys.Perm xs/\(ys.map (·.1)).Pairwise (ltO xs):=by
 obtain⟨M,s,t,l,m⟩:=v;rw[List.nil_append,List.append_nil]at l;have o:=h.dist;have p:(M.map (grO xs)).map (·.1)=M:=by
  rw[List.map_map];have:((fun x:Gx=>x.1) ∘ grO xs)=id:=funext fun x=>za9f xs x;rw[this,List.map_id]
 have d:(M.map (grO xs)).Perm xs:=by
  have g:=s.map (grO xs);rw[List.map_map]at g;have e:xs.map ((grO xs) ∘ fun x:Gx=>x.1)=xs:=by
   have q:xs.map ((grO xs) ∘ fun x:Gx=>x.1)=xs.map id:=List.map_congr_left fun x hx=>zt0 o hx;rw[q,List.map_id]
  rw[e]at g;exact g
 refine⟨M.map (grO xs),⟨?_,fun x hx=>?_,?_⟩,d,by rw[p];exact t⟩
 ·have e:(M.map (grO xs)).map ptG=M.map pN:=by
   rw[List.map_map];apply List.map_congr_left;intro x _;show ptG (grO xs x)=pN x;unfold ptG pN;rw[za9f]
  have r:(M.map (grO xs)).length=L:=by rw[d.length_eq];exact u
  rw[e,r];exact l
 ·have f:=d.subset hx;have i:=h.cell x f;have j:=za1h h x f;exact⟨i.1.but m j.1,i.2.1,za8 i.2.2 m j.2⟩
 ·exact(d.pairwise_iff (fun {x y} hxy=>⟨fun e=>hxy.1 e.symm,fun k hk e=>hxy.2 k e hk⟩)).2 h.ap
def ltS (a b:ByteArray):Bool:=Op.bytesLess a.toList b.toList
theorem zn5 (a b:ByteArray):ltS a b=decide (Lib.compareBytes a.data.toList b.data.toList<0):=by
 unfold ltS;rw[ByteArray.toList_eq,ByteArray.toList_eq,zw3]
theorem zc4s {a b c:ByteArray} (d:ltS a b=true) (f:ltS b c=true):ltS a c=true:=by
 rw[zn5,decide_eq_true_eq]at *;exact(zo1 _ _ _ (Int.le_of_lt d) (Int.le_of_lt f)).2 (Or.inl d)
theorem zc4t {a b:ByteArray} (h:ltS a b=true):a≠b:=fun e=>by
 subst e;rw[zn5,zk1]at h;simp at h
theorem zc4u {a b:ByteArray} (h:ltS a b=false) (c:a≠b):ltS b a=true:=by
 rw[zn5,decide_eq_true_eq];rw[zn5,decide_eq_false_iff_not]at h;have d:=zk3 a.data.toList b.data.toList;have f:Lib.compareBytes a.data.toList b.data.toList≠0:=fun e=>c (zc1 (zk2 _ _ e));omega
def plcS (p:ByteArray):List ByteArray->Nat
 | []=>0
 | q :: r=>if ltS q p=true then plcS p r+1 else 0
def ispS (p:ByteArray):List ByteArray->List ByteArray
 | []=> [p]
 | q :: r=>if ltS q p=true then q :: ispS p r else p :: q :: r
theorem za1i (p:ByteArray):∀l:List ByteArray,ispS p l=l.take (plcS p l)++ [p]++l.drop (plcS p l)
 | []=>rfl
 | q :: r=>by
  unfold ispS plcS;by_cases h:ltS q p=true
  ·rw[if_pos h,if_pos h,za1i p r];rfl
  ·rw[if_neg h,if_neg h];rfl
theorem zn6 {p x:ByteArray} :∀ {l:List ByteArray},x∈ispS p l↔x=p\/x∈l
 | []=>by simp[ispS]
 | q :: r=>by
  unfold ispS;split
  ·rw[List.mem_cons,zn6,List.mem_cons];constructor
   ·rintro(h | h | h)
    ·exact Or.inr (Or.inl h)
    ·exact Or.inl h
    ·exact Or.inr (Or.inr h)
   ·rintro(h | h | h)
    ·exact Or.inr (Or.inl h)
    ·exact Or.inl h
    ·exact Or.inr (Or.inr h)
  ·rw[List.mem_cons,List.mem_cons]
def RiseS (l:List ByteArray):Prop:=l.Pairwise fun a b=>ltS a b=true
theorem za9g {p:ByteArray} :∀ {l:List ByteArray},RiseS l->p∉l->RiseS (ispS p l)
 | [],_,_=>List.pairwise_singleton _ _
 | q :: r,h,hn=>by
  unfold RiseS at h;rw[List.pairwise_cons]at h;rw[List.mem_cons,not_or]at hn;unfold ispS;by_cases e:ltS q p=true
  ·rw[if_pos e];refine List.pairwise_cons.2 ⟨fun x b=>?_,za9g h.2 hn.2⟩;rcases zn6.1 b with rfl | b
   ·exact e
   ·exact h.1 x b
  ·rw[if_neg e];have c:ltS p q=true:=zc4u (by simpa using e) (fun e=>hn.1 e.symm);refine List.pairwise_cons.2 ⟨fun x b=>?_,List.pairwise_cons.2 h⟩;rcases List.mem_cons.1 b with rfl | b
   ·exact c
   ·exact zc4s c (h.1 x b)
def insS (p:ByteArray) (l:List ByteArray):List ByteArray:=if (inT l p || decide (p.data.toList= [45]))=true then l else ispS p l
theorem zc4v {p:ByteArray} {l:List ByteArray} (h:RiseS l):RiseS (insS p l):=by
 unfold insS;split
 ·exact h
 ·rename_i e;rw[Bool.or_eq_true,not_or]at e;exact za9g h (fun hm=>e.1 (za8f.2 hm))
def prtN (fs:List Fl) (n:Nat):List ByteArray:=(fs.take n).foldl (fun l f=>insS f.2.1 l) []
theorem zc4w {b:List Fl} {n:Nat} (h:n<b.length):prtN b (n+1)=insS b[n].2.1 (prtN b n):=by
 unfold prtN;rw[List.take_succ_eq_append_getElem h,List.foldl_append];rfl
theorem za9h:∀(fs:List Fl) (l:List ByteArray),RiseS l->(∀p∈l,p.data.toList≠ [45])->RiseS (fs.foldl (fun l f=>insS f.2.1 l) l)/\(∀p∈fs.foldl (fun l f=>insS f.2.1 l) l,p.data.toList≠ [45])/\(∀p∈l,p∈fs.foldl (fun l f=>insS f.2.1 l) l)/\∀f∈fs,f.2.1.data.toList≠ [45]->f.2.1∈fs.foldl (fun l f=>insS f.2.1 l) l
 | [],l,h1,h2=>⟨h1,h2,fun p b=>b,fun f c=>absurd c List.not_mem_nil⟩
 | g :: r,l,h1,h2=>by
  have i:∀p∈insS g.2.1 l,p.data.toList≠ [45]:=fun p b=>by
   unfold insS at b;split at b
   ·exact h2 p b
   ·rename_i e;rcases zn6.1 b with rfl | b
    ·intro q;apply e;rw[decide_eq_true q,Bool.or_true]
    ·exact h2 p b
  have j:∀p∈l,p∈insS g.2.1 l:=fun p b=>by
   unfold insS;split
   ·exact b
   ·exact zn6.2 (Or.inr b)
  have k:g.2.1.data.toList≠ [45]->g.2.1∈insS g.2.1 l:=fun hne=>by
   unfold insS;by_cases e:inT l g.2.1=true
   ·rw[if_pos (by rw[e];rfl)];exact za8f.1 e
   ·rw[if_neg (by rw[Bool.or_eq_true,not_or];exact⟨e,by simpa using hne⟩)];exact zn6.2 (Or.inl rfl)
  obtain⟨m,n,d,o⟩:=za9h r (insS g.2.1 l) (zc4v h1) i;refine⟨m,n,fun p b=>d p (j p b),fun f c hne=>?_⟩;rcases List.mem_cons.1 c with rfl | c
  ·exact d _ (k hne)
  ·exact o f c hne
theorem za9i:∀(fs:List Fl) (l:List ByteArray),(fs.foldl (fun l f=>insS f.2.1 l) l).length<=l.length+fs.length
 | [],l=>Nat.le_refl _
 | g :: r,l=>by
  have b:=za9i r (insS g.2.1 l);have h:(insS g.2.1 l).length<=l.length+1:=by
   unfold insS;split
   ·omega
   ·rw[za1i];simp only[List.length_append,List.length_take,List.length_drop,List.length_singleton];omega
  rw[List.foldl_cons,List.length_cons];omega
theorem za9j (b:List Fl) (n:Nat):(prtN b n).length<=b.length:=by
 have h:=za9i (b.take n) [];have c:=List.length_take_le' n b;unfold prtN;simp only[List.length_nil]at h;omega
def binB (least:Int) (p:ByteArray) (f:Fl):Bool:=decide (f.2.1=p) && decide (f.2.2.1<least)
def bnN (fs:List Fl) (least:Int) (p:ByteArray) (n:Nat):List Gp:=((fs.take n).filter (binB least p)).foldl (fun gs f=>putG f gs) []
theorem za9k {b:List Fl} {least:Int} {p:ByteArray} {n:Nat} (h:n<b.length) (e:binB least p b[n]=true):bnN b least p (n+1)=putG b[n] (bnN b least p n):=by
 unfold bnN;rw[List.take_succ_eq_append_getElem h,List.filter_append,List.foldl_append];simp[e]
theorem za9l {b:List Fl} {least:Int} {p:ByteArray} {n:Nat} (h:n<b.length) (e:binB least p b[n]=false):bnN b least p (n+1)=bnN b least p n:=by
 unfold bnN;rw[List.take_succ_eq_append_getElem h,List.filter_append,List.foldl_append];simp[e]
theorem za1j {f:Fl} {p:ByteArray} (h:f.2.1=p):∀gs:List Gp,(putG f gs).filter (fun g=>decide (g.1=p))=putG f (gs.filter fun g=>decide (g.1=p))
 | []=>by simp[putG,takeG,h]
 | g :: r=>by
  by_cases e:fitG f g=true
  ·have b:g.1=p:=by
    unfold fitG at e;rw[Bool.and_eq_true,decide_eq_true_eq]at e;rw[e.1,h]
   rw[putG,if_pos e,List.filter_cons_of_pos (by exact decide_eq_true (show (takeG f g).1=p from b)),List.filter_cons_of_pos (by simpa using b),putG,if_pos e]
  ·rw[putG,if_neg e];by_cases b:g.1=p
   ·rw[List.filter_cons_of_pos (by simpa using b),List.filter_cons_of_pos (by simpa using b),putG,if_neg e,za1j h r]
   ·rw[List.filter_cons_of_neg (by simpa using b),List.filter_cons_of_neg (by simpa using b),za1j h r]
theorem za1k {f:Fl} {p:ByteArray} (h:f.2.1≠p):∀gs:List Gp,(putG f gs).filter (fun g=>decide (g.1=p))=gs.filter fun g=>decide (g.1=p)
 | []=>by simp[putG,takeG,h]
 | g :: r=>by
  by_cases e:fitG f g=true
  ·have b:g.1≠p:=by
    unfold fitG at e;rw[Bool.and_eq_true,decide_eq_true_eq]at e;rw[e.1];exact h
   rw[putG,if_pos e,List.filter_cons_of_neg (by rw[decide_eq_false (show ¬(takeG f g).1=p from b)];simp),List.filter_cons_of_neg (by simpa using b)]
  ·rw[putG,if_neg e];by_cases b:g.1=p
   ·rw[List.filter_cons_of_pos (by simpa using b),List.filter_cons_of_pos (by simpa using b),za1k h r]
   ·rw[List.filter_cons_of_neg (by simpa using b),List.filter_cons_of_neg (by simpa using b),za1k h r]
theorem za9m (p:ByteArray):∀(l:List Fl) (gs:List Gp),(l.foldl (fun gs f=>putG f gs) gs).filter (fun g=>decide (g.1=p))=(l.filter fun f=>decide (f.2.1=p)).foldl (fun gs f=>putG f gs) (gs.filter fun g=>decide (g.1=p))
 | [],_=>rfl
 | f :: r,gs=>by
  rw[List.foldl_cons,za9m p r];by_cases h:f.2.1=p
  ·rw[za1j h,List.filter_cons_of_pos (by simpa using h),List.foldl_cons]
  ·rw[za1k h,List.filter_cons_of_neg (by simpa using h)]
theorem zc4x {b:List Fl} (i:∀f∈b,fileE f=0) (least:Int) {p:ByteArray} (j:p.data.toList≠ [45]):(plN b least b.length).filter (fun g=>decide (g.1=p))=bnN b least p b.length:=by
 unfold plN bnN;rw[za9m,List.filter_filter,List.take_length];have e:(b.filter fun a=>decide (a.2.1=p) && fewB least a)=b.filter (binB least p):=by
  apply List.filter_congr;intro f d;unfold fewB binB;by_cases h:f.2.1=p
  ·have c:=zs0 (i f d);rw[h,decide_eq_false j]at c;rw[c];rfl
  ·rw[decide_eq_false h];rfl
 rw[e];rfl
theorem za9n {f:Fl} :∀ {gs:List Gp} {g:Gp},g∈putG f gs->g.1=f.2.1\/∃h∈gs,g.1=h.1
 | [],g,h=>by
  rw[putG,List.mem_singleton]at h;exact Or.inl (by rw[h];rfl)
 | a :: r,g,h=>by
  unfold putG at h;split at h
  ·rcases List.mem_cons.1 h with rfl | h
   ·exact Or.inr ⟨a,List.mem_cons_self,rfl⟩
   ·exact Or.inr ⟨g,List.mem_cons_of_mem _ h,rfl⟩
  ·rcases List.mem_cons.1 h with rfl | h
   ·exact Or.inr ⟨g,List.mem_cons_self,rfl⟩
   ·rcases za9n h with h | ⟨x,b,e⟩
    ·exact Or.inl h
    ·exact Or.inr ⟨x,List.mem_cons_of_mem _ b,e⟩
theorem za1l {P:ByteArray->Prop} :∀(l:List Fl) (gs:List Gp),(∀f∈l,P f.2.1)->(∀g∈gs,P g.1)->∀g∈l.foldl (fun gs f=>putG f gs) gs,P g.1
 | [],_,_,h,g,hg=>h g hg
 | f :: r,gs,h1,h2,g,hg=>by
  rw[List.foldl_cons]at hg;refine za1l r (putG f gs) (fun x hx=>h1 x (List.mem_cons_of_mem _ hx)) (fun x hx=>?_) g hg;rcases za9n hx with e | ⟨y,b,e⟩
  ·rw[e];exact h1 f List.mem_cons_self
  ·rw[e];exact h2 y b
theorem za9o {α κ:Type} [DecidableEq κ] (b:α->κ) {d:List κ} (n:d.Nodup):∀ {l:List α},(∀x∈l,b x∈d)->(d.flatMap fun k=>l.filter fun x=>decide (b x=k)).Perm l
 | [],_=>by
  have e:(d.flatMap fun k=>([]:List α).filter fun x=>decide (b x=k))= []:=by
   rw[List.flatMap_eq_nil_iff];intro k _;rfl
  rw[e]
 | x :: r,h=>by
  have i:=za9o b n (l:=r) (fun y hy=>h y (List.mem_cons_of_mem _ hy));obtain⟨f,g,e⟩:=List.append_of_mem (h x List.mem_cons_self);subst e;have j:=List.nodup_append.1 n;have m:=List.nodup_cons.1 j.2.1;have o:∀k∈f,b x≠k:=fun k c e=>j.2.2 k c _ List.mem_cons_self e.symm;have p:∀k∈g,b x≠k:=fun k c e=>m.1 (e▸c);have q:(f.flatMap fun k=>(x :: r).filter fun x=>decide (b x=k))=f.flatMap fun k=>r.filter fun x=>decide (b x=k):=by
   rw[List.flatMap_def,List.flatMap_def];congr 1;apply List.map_congr_left;intro k c;exact List.filter_cons_of_neg (by simpa using o k c)
  have s:(g.flatMap fun k=>(x :: r).filter fun x=>decide (b x=k))=g.flatMap fun k=>r.filter fun x=>decide (b x=k):=by
   rw[List.flatMap_def,List.flatMap_def];congr 1;apply List.map_congr_left;intro k c;exact List.filter_cons_of_neg (by simpa using p k c)
  rw[List.flatMap_append,List.flatMap_cons,q,s,List.filter_cons_of_pos (by simp)];rw[List.flatMap_append,List.flatMap_cons]at i;refine List.Perm.trans ?_ (i.cons x);rw[List.cons_append];exact List.perm_middle
theorem zc4y {l:List ByteArray} (h:RiseS l):l.Nodup:=h.imp fun h=>zc4t h
theorem zc4z {xs:List Gx} (l:xs.Pairwise fun x y=>x.1≠y.1):xs.Pairwise fun x y=>ixO (xs.map (·.1)) x.1<ixO (xs.map (·.1)) y.1:=by
 have b:(xs.map (·.1)).Pairwise fun x y=>x≠y:=by rw[List.pairwise_map];exact l
 rw[List.pairwise_iff_getElem];intro i j g k f;have c:=zt1 b i (by simpa using g);have d:=zt1 b j (by simpa using k);rw[List.getElem_map]at c d;rw[c,d];exact f
theorem zc5a {xs:List Gx} {x y:Nat} (b:ltO xs x y) (c:ltO xs y x):False:=by
 unfold ltO at b c;have d:=zk3 (keyG xs x) (keyG xs y);rcases b with b | b<;>rcases c with c | c<;>omega
theorem zc5b {xs f:List Gx} (i:xs.Pairwise fun x y=>x.1≠y.1) (n:f.Perm xs) (o:(f.map (·.1)).Pairwise (ltO xs)) {g:List ByteArray} (j:RiseS g) (q:∀x∈xs,x.2.2.1∈g):f=g.flatMap fun k=>xs.filter fun x=>decide (x.2.2.1=k):=by
 have m:=za9o (fun x:Gx=>x.2.2.1) (zc4y j) (l:=xs) q;have c:∀x∈xs,keyG xs x.1=x.2.2.1.data.toList:=fun x hx=>by unfold keyG;rw[zt0 i hx]
 refine List.Perm.eq_of_pairwise (le:=fun x y:Gx=>ltO xs x.1 y.1) (fun a b _ _ d h2=>(zc5a d h2).elim) (List.pairwise_map.1 o) ?_ (n.trans m.symm);rw[List.pairwise_flatMap];refine⟨fun k _=>?_,?_⟩
 ·have d:=(zc4z i).sublist (List.filter_sublist (p:=fun x:Gx=>decide (x.2.2.1=k)));refine List.Pairwise.imp_of_mem (fun {a b} ha hb h=>?_) d;rw[List.mem_filter]at ha hb;refine Or.inr ⟨?_,h⟩;rw[c a ha.1,c b hb.1,of_decide_eq_true ha.2,of_decide_eq_true hb.2,zk1];exact Int.le_refl _
 ·refine List.Pairwise.imp (fun {a b} h x hx y hy=>?_) j;rw[List.mem_filter]at hx hy;refine Or.inl ?_;rw[c x hx.1,c y hy.1,of_decide_eq_true hx.2,of_decide_eq_true hy.2];rw[zn5]at h;exact of_decide_eq_true h
theorem za1m (a b:List Gp):sevG (a++b)=sevG a++sevG b:=by
 unfold sevG;rw[List.filter_append,List.map_append]
theorem za9p {α:Type} (f:α->List Gp):∀l:List α,sevG (l.flatMap f)=l.flatMap fun x=>sevG (f x)
 | []=>rfl
 | x :: r=>by rw[List.flatMap_cons,za1m,za9p f r,List.flatMap_cons]
def planD (fs:List Fl) (least:Int):List (List ByteArray):=(prtN fs fs.length).flatMap fun p=>sevG (bnN fs least p fs.length)
theorem zc5c {b:List Fl} (s:∀f∈b,fileE f=0) {least:Int} {xs j:List Gx} (z:xs.Pairwise fun x y=>x.1≠y.1) (t:xs.map (·.2.2)=plN b least b.length) (k:j.Perm xs) (A:(j.map (·.1)).Pairwise (ltO xs)):sevG (j.map (·.2.2))=planD b least:=by
 obtain⟨n,o,_,q⟩:=za9h b [] List.Pairwise.nil (fun p k=>absurd k List.not_mem_nil);have u:prtN b b.length=b.foldl (fun l f=>insS f.2.1 l) []:=by unfold prtN;rw[List.take_length]
 rw[<-u]at n o q;have d:∀x∈xs,x.2.2.1∈prtN b b.length:=fun x hx=>by
  have m:x.2.2∈plN b least b.length:=by rw[<-t];exact List.mem_map.2 ⟨x,hx,rfl⟩
  unfold plN at m;refine za1l (P:=fun p=>p∈prtN b b.length) _ [] (fun f hf'=>?_) (fun g c=>absurd c List.not_mem_nil) _ m;rw[List.take_length,List.mem_filter]at hf';refine q f hf'.1 (fun e=>?_);have c:=zs0 (s f hf'.1);rw[decide_eq_true e]at c;have i:=hf'.2;unfold fewB at i;rw[c]at i;simp at i
 rw[zc5b z k A n d];unfold planD;rw[List.map_flatMap,za9p];rw[List.flatMap_def,List.flatMap_def];congr 1;apply List.map_congr_left;intro p r;have v:(xs.filter fun x=>decide (x.2.2.1=p)).map (·.2.2)=(plN b least b.length).filter fun g=>decide (g.1=p):=by
  rw[<-t,List.filter_map];rfl
 rw[v,zc4x s least (o p r)]
abbrev Bx:=Value×Gp
def encB (x:Bx):List Value:= [.string x.2.1,.int .i64 x.2.2.1,x.1]
def flatB (xs:List Bx):List Value:=xs.flatMap encB
theorem zc5d (xs b:List Bx):flatB (xs++b)=flatB xs++flatB b:=by
 unfold flatB;rw[List.flatMap_append]
theorem zj7:∀ {xs:List Bx} {j:Nat} (h:j<xs.length) {c:Nat},c<3->(flatB xs)[j*3+c]? =(encB xs[j])[c]?
 | [],j,h,_,_=>absurd h (Nat.not_lt_zero _)
 | x :: r,0,_,c,hc=>by
  unfold flatB;rw[List.flatMap_cons,Nat.zero_mul,Nat.zero_add,List.getElem?_append_left (show c<(encB x).length from hc)];rfl
 | x :: r,j+1,h,c,hc=>by
  have b:=zj7 (xs:=r) (j:=j) (by simpa using h) hc;unfold flatB at *;rw[List.flatMap_cons,List.getElem?_append_right (show (encB x).length<=(j+1)*3+c by show 3<=_;omega)];have e:(j+1)*3+c-(encB x).length=j*3+c:=by show (j+1)*3+c-3=_;omega
  rw[e,b];rfl
theorem za1n:∀ {xs:List Bx} {j:Nat} (h:j<xs.length) {c:Nat} (u:Value) (y:Bx),c<3->encB y=(encB xs[j]).set c u->(flatB xs).set (j*3+c) u=flatB (xs.set j y)
 | [],j,h,_,_,_,_,_=>absurd h (Nat.not_lt_zero _)
 | x :: r,0,_,c,u,y,hc,e=>by
  unfold flatB;rw[List.flatMap_cons,Nat.zero_mul,Nat.zero_add,List.set_append_left _ _ (show c<(encB x).length from hc)];rw[List.set_cons_zero,List.flatMap_cons,e];rfl
 | x :: r,j+1,h,c,u,y,hc,e=>by
  have b:=za1n (xs:=r) (j:=j) (by simpa using h) u y hc e;unfold flatB at *;rw[List.flatMap_cons,List.set_append_right _ _ (show (encB x).length<=(j+1)*3+c by show 3<=_;omega)];have d:(j+1)*3+c-(encB x).length=j*3+c:=by show (j+1)*3+c-3=_;omega
  rw[d,b,List.set_cons_succ,List.flatMap_cons]
theorem za9q {W:World} {B:Nat} {e:TypeId} {b:Nat} {g n c:Nat} {xs:List Value} (h:W.ownsRow B e b (.slice (some ⟨g,0,none⟩) n c) n xs) (j:Nat) (u:Value):(W.setCell ⟨g,j,none⟩ u).ownsRow B e b (.slice (some ⟨g,0,none⟩) n c) n (xs.set j u):=by
 refine⟨by rw[List.length_set];exact h.1,?_⟩;rcases h.2 with⟨d,_⟩|⟨r,i,f,d,k,l,m,o,p,q⟩
 ·cases d
 ·simp only[Value.slice.injEq,Option.some.injEq,Addr.mk.injEq]at d;obtain⟨⟨rfl,_⟩,_,rfl⟩:=d;refine Or.inr ⟨g,c,f.setIfInBounds j u,rfl,k,heap_setCell_same _ _ _ _ _ _ l,m,o,by rw[Array.size_setIfInBounds];exact p,?_⟩;rw[Array.toList_setIfInBounds,<-q,List.take_set]
theorem zj8 {W:World} {B:Nat} {e:TypeId} {b:Nat} {g n i:Nat} {xs:List Value} (h:W.ownsRow B e b (.slice (some ⟨g,0,none⟩) n i) n xs) {j:Nat} {u:Value} (k:xs[j]? =some u):W.cell? ⟨g,j,none⟩=some u/\W.frozen? ⟨g,j,none⟩=false:=by
 rcases h.2 with⟨c,_⟩|⟨q,l,d,c,r,f,s,t,v,m⟩
 ·cases c
 ·simp only[Value.slice.injEq,Option.some.injEq,Addr.mk.injEq]at c;obtain⟨⟨rfl,_⟩,_,rfl⟩:=c;refine⟨?_,frozen_of_row _ _ _ _ _ f⟩;have p:=h.1;have o:j<xs.length:=(List.getElem?_eq_some_iff.1 k).1;rw[cell_of_row _ _ _ _ _ _ f];have e:(d.toList.take (n*b))[j]? =xs[j]? :=by rw[m]
  rw[List.getElem?_take,if_pos (by omega),Array.getElem?_toList,k]at e;exact e
structure BinsIn (B:Nat) (W:World) (v:Value) (xs:List Bx):Prop where
 row:W.ownsRow B 117 3 v xs.length (flatB xs)
 cell:∀x∈xs,W.ownsRow B 9 1 x.1 x.2.2.2.length (x.2.2.2.map Value.string)
 ap:(xs.map (·.1)).Pairwise fun x y=> ∀k,x.ownBlock=some k->y.ownBlock≠some k
theorem BinsIn.but {P:Nat->Prop} {B:Nat} {W b:World} {v:Value} {xs:List Bx} (h:BinsIn B W v xs) (c:But P W b) (d:∀k,v.ownBlock=some k->¬P k) (f:∀x∈xs,∀k,x.1.ownBlock=some k->¬P k):BinsIn B b v xs :=
 ⟨za8 h.row c d,fun x hx=>za8 (h.cell x hx) c (f x hx),h.ap⟩
theorem BinsIn.below {B:Nat} {W b:World} {v:Value} {xs:List Bx} (h:BinsIn B W v xs) (c:BL W b):BinsIn B b v xs :=
 h.but (But.of_below (P:=fun _=>False) c) (fun _ _ h=>h) (fun _ _ _ _ h=>h)
theorem BinsIn.nil (B:Nat) (W:World):BinsIn B W (.slice none 0 0) []:=⟨World.ownsRow_nil _ _ _ _,fun _ h=>absurd h (List.not_mem_nil),List.Pairwise.nil⟩
theorem BinsIn.at_ {B:Nat} {W:World} {q:Option Addr} {n c:Nat} {xs:List Bx} (h:BinsIn B W (.slice q n c) xs) (d:xs≠ []):∃g,q=some ⟨g,0,none⟩/\n=xs.length/\∀j (hj:j<xs.length),(W.cell? ⟨g,j*3,none⟩=some (.string xs[j].2.1)/\W.cell? ⟨g,j*3+1,none⟩=some (.int .i64 xs[j].2.2.1)/\W.cell? ⟨g,j*3+2,none⟩=some xs[j].1)/\∀o,W.frozen? ⟨g,o,none⟩=false:=by
 rcases h.row.2 with⟨_,f⟩|⟨g,l,m,b,p,i,r,s,t,u⟩
 ·exact absurd (List.length_eq_zero_iff.1 f) d
 ·have k:=b;simp only[Value.slice.injEq]at b;obtain⟨rfl,rfl,rfl⟩:=b;refine⟨g,rfl,rfl,fun j hj=>⟨⟨?_,?_,?_⟩,fun o=>frozen_of_row _ _ _ _ _ i⟩⟩
  ·exact(zj8 h.row (by have e:=zj7 hj (c:=0) (by omega);rw[Nat.add_zero]at e;rw[e];rfl)).1
  ·exact(zj8 h.row (by rw[zj7 hj (c:=1) (by omega)];rfl)).1
  ·exact(zj8 h.row (by rw[zj7 hj (c:=2) (by omega)];rfl)).1
theorem BinsIn.off {B:Nat} {W:World} {v:Value} {xs:List Bx} (h:BinsIn B W v xs) {x:Bx} (d:x∈xs) {k:Nat} (f:v.ownBlock=some k):x.1.ownBlock≠some k:=fun e=>by
 obtain⟨_,_,g,b⟩:=za5 h.row f;obtain⟨_,_,i,c⟩:=za5 (h.cell x d) e;exact zb0 b c (by decide) rfl
theorem Tryz.binInfo3:(Tryz.prog.info? 117).map (fun i=>(i.zero,i.size,i.bytes))=some (some (.agg #[.string ⟨#[]⟩,.int .i64 0,.slice none 0 0]),3,48):=by kernel_rfl
theorem Tryz.binInfo:∃i0:TypeInfo,Tryz.prog.info? 117=some i0/\i0.zero=some (.agg #[.string ⟨#[]⟩,.int .i64 0,.slice none 0 0])/\i0.size=3/\i0.bytes=48:=by
 have h:=Tryz.binInfo3
 cases b:Tryz.prog.info? 117 with
 | none=>rw [b]at h;simp at h
 | some i =>
  rw[b]at h;simp only[Option.map_some,Option.some.injEq,Prod.mk.injEq]at h;exact⟨i,rfl,h.1,h.2.1,h.2.2⟩
theorem BinsIn.more {B:Nat} {W f:World} {v:Value} {xs:List Bx} (h:BinsIn B W v xs) (A:B<=W.heap.size) (p:ByteArray) (g:f=W.alloc (.cells #[.string p,.int .i64 0,.slice none 0 0] 117)) (D:xs.length<=1000) :
  ∃v' W2,(Builtin.append_ #[115,115] 115 #[v,.slice (some ⟨W.heap.size,0,none⟩) 1 1]).run Tryz.prog f= .ok v' W2/\BinsIn B W2 v' (xs++ [(.slice none 0 0,(p,0, []))])/\But (fun k=>v.ownBlock=some k) W W2:=by
 obtain⟨n,o,q,r,l⟩:=Tryz.binInfo;have b:BL W f:=by rw[g];exact alB _ _
 have i:=h.below b;have j:Src f (some ⟨W.heap.size,0,none⟩) 1 1 (encB (.slice none 0 0,(p,0, []))):=by
  rw[g];exact zi9 W (encB (.slice none 0 0,(p,0, []))) 117 1 1
 obtain⟨v',W2,s,t,z,C⟩:=zf1 (P:=Tryz.prog) f B 115 115 117 n (.agg #[.string ⟨#[]⟩,.int .i64 0,.slice none 0 0]) 3 48 Tryz.underlying115 o q r l rfl (by decide) v xs.length (flatB xs) i.row (some ⟨W.heap.size,0,none⟩) 1 1 (encB (.slice none 0 0,(p,0, []))) rfl j (by
  intro u m;simp only[encB,List.mem_cons,List.not_mem_nil,or_false]at m;rcases m with rfl | rfl | rfl<;>rfl) (by unfold maxLen;omega) (by omega) (Nat.le_trans A b.size)
 have c:=But.grown z;refine⟨v',W2,s,⟨?_,fun x d=>?_,?_⟩,(But.of_below b).trans c (fun _ h _=>h)⟩
 ·rw[List.length_append,zc5d];simpa [flatB] using t
 ·rw[List.mem_append,List.mem_singleton]at d;rcases d with d | rfl
  ·exact za8 (i.cell x d) c (fun k hk e=>i.off d e hk)
  ·exact World.ownsRow_nil _ _ _ _
 ·rw[List.map_append,List.pairwise_append];refine⟨h.ap,List.pairwise_singleton _ _,fun x _ y hy=>?_⟩;rw[List.map_singleton,List.mem_singleton]at hy;subst hy;intro k _ e;simp[Value.ownBlock]at e
theorem BinsIn.set1 {B:Nat} {W:World} {g L f:Nat} {xs:List Bx} (h:BinsIn B W (.slice (some ⟨g,0,none⟩) L f) xs) (i:xs.length=L) {n:Nat} (p:n<xs.length) (m:Int):BinsIn B (W.setCell ⟨g,n*3+1,none⟩ (.int .i64 m)) (.slice (some ⟨g,0,none⟩) L f) (xs.set n (xs[n].1,(xs[n].2.1,m,xs[n].2.2.2))):=by
 have d:But (fun k=>k=g) W (W.setCell ⟨g,n*3+1,none⟩ (.int .i64 m)):=(But.refl (fun k=>k=g) W).setCell (Or.inl (Eq.refl g)) _;have b:=h.row;rw[i]at b;refine⟨?_,fun x hx=>?_,?_⟩
 ·rw[List.length_set,i,<-za1n p (c:=1) (.int .i64 m) _ (by omega) rfl];exact za9q b _ _
 ·obtain⟨j,o,rfl⟩:=List.mem_iff_getElem.1 hx;rw[List.length_set]at o;rw[List.getElem_set];split
  ·rename_i e;subst e;exact za8 (h.cell xs[n] (List.getElem_mem _)) d (fun k hk e=>h.off (List.getElem_mem _) (k:=g) rfl (e▸hk))
  ·exact za8 (h.cell xs[j] (List.getElem_mem _)) d (fun k hk e=>h.off (List.getElem_mem _) (k:=g) rfl (e▸hk))
 ·have l:(xs.set n (xs[n].1,(xs[n].2.1,m,xs[n].2.2.2))).map (·.1)=xs.map (·.1):=by
   apply List.ext_getElem (by simp);intro j _ _;simp only[List.getElem_map,List.getElem_set];split
   ·rename_i e;subst e;rfl
   ·rfl
  rw[l];exact h.ap
theorem BinsIn.set2 {B:Nat} {W d:World} {g L q:Nat} {xs:List Bx} (h:BinsIn B W (.slice (some ⟨g,0,none⟩) L q) xs) (G:xs.length=L) {n:Nat} (v:n<xs.length) {f:Value} {A:List ByteArray} (J:d.ownsRow B 9 1 f A.length (A.map Value.string)) (H:But (fun k=>xs[n].1.ownBlock=some k) W d) (r:f.ownBlock=xs[n].1.ownBlock\/∃k,f.ownBlock=some k/\W.heap.size<=k/\k<d.heap.size):BinsIn B (d.setCell ⟨g,n*3+2,none⟩ f) (.slice (some ⟨g,0,none⟩) L q) (xs.set n (f,(xs[n].2.1,xs[n].2.2.1,A))):=by
 have C:But (fun k=>k=g) d (d.setCell ⟨g,n*3+2,none⟩ f):=(But.refl (fun k=>k=g) d).setCell (Or.inl (Eq.refl g)) _;have l:d.ownsRow B 117 3 (.slice (some ⟨g,0,none⟩) L q) L (flatB xs):=by
  have D:=za8 h.row H (fun k hk e=>h.off (List.getElem_mem v) hk e);rw[G]at D;exact D
 have E:∃c,d.heap[g]? =some (.cells c 117 (0,0)):=(za5 l (k:=g) rfl).2.2;have m:=List.pairwise_iff_getElem.1 h.ap;have y:∀j (b:j<xs.length),j≠n->∀k,xs[j].1.ownBlock=some k->xs[n].1.ownBlock≠some k:=fun j b hne k hk e=>by
  rcases Nat.lt_or_gt_of_ne hne with z | z
  ·have:=m j n (by simpa using b) (by simpa using v) z k;simp only[List.getElem_map]at this;exact this hk e
  ·have:=m n j (by simpa using v) (by simpa using b) z k;simp only[List.getElem_map]at this;exact this e hk
 have o:∀j (b:j<xs.length),j≠n->∀k,xs[j].1.ownBlock=some k->f.ownBlock≠some k:=fun j b hne k hk e=>by
  rcases r with r | ⟨i,r,t,_⟩
  ·exact y j b hne k hk (r.symm.trans e)
  ·rw[r]at e;injection e with e;have:=(za5 (h.cell xs[j] (List.getElem_mem _)) hk).2.1;omega
 have p:∀(u:Value) (ts:List ByteArray),d.ownsRow B 9 1 u ts.length (ts.map Value.string)->(d.setCell ⟨g,n*3+2,none⟩ f).ownsRow B 9 1 u ts.length (ts.map Value.string):=fun u ts hu=>za8 hu C (fun k hk e=>by
  obtain⟨c,I⟩:=E;obtain⟨_,_,K,s⟩:=za5 hu hk;rw[e]at s;exact zb0 I s (by decide) rfl)
 refine⟨?_,fun x hx=>?_,?_⟩
 ·rw[List.length_set,G,<-za1n v (c:=2) f _ (by omega) rfl];exact za9q l _ _
 ·obtain⟨j,b,rfl⟩:=List.mem_iff_getElem.1 hx;rw[List.length_set]at b;rw[List.getElem_set];split
  ·exact p _ _ J
  ·rename_i e;exact p _ _ (za8 (h.cell xs[j] (List.getElem_mem _)) H (fun k hk e'=>y j b (fun s=>e s.symm) k hk e'))
 ·rw[List.pairwise_iff_getElem];intro i j t b F;rw[List.length_map,List.length_set]at t b;rw[List.getElem_map,List.getElem_map,List.getElem_set,List.getElem_set];split
  ·rename_i e;subst e;rw[if_neg (by omega)];exact fun k hk e=>o j b (by omega) k e hk
  ·split
   ·rename_i M e;subst e;exact fun k hk e=>o i t (by omega) k hk e
   ·have:=m i j (by simpa using t) (by simpa using b) F;simp only[List.getElem_map]at this;exact this
theorem zc5e (v:Value) (f:List Fl) (w:World) (m:FlsAt w v f) (H:f.length<=20000) :
  Calls Tryz.prog 55 #[v] w fun e w'=> ∃v',e= .returned v'/\w'.ownsRow w.heap.size 43 6 v' f.length (flatF f)/\BL w w':=by
 obtain⟨B,C,D,E,z⟩:=Tryz.fileInfo;have I:∀(w:World) (a:Option Addr) (n c n' c':Nat),(binOp .eql 23 (.slice a n c) (.slice none n' c')).run Tryz.prog w= .ok (.bool a.isNone) w:=fun w a n c n' c'=>Lib.run_eql_slice_nil w _ _ a n c n' c' Tryz.underlying23;obtain⟨q,p,rfl⟩:=m.form;have g:=za5c m;have i:=ze0 f;have j:=zb2 f;have l:BL w (w.alloc (.cells #[] 43)):=alB _ _;have d:=g.below l
 cases q with
 | none =>
  have t:f= []:=by
   rcases m with⟨_,_,_,_,t⟩|⟨b,o,p,e,_⟩
   ·exact t
   ·injection e with e1;cases e1
  subst t;clear m g d i j
  go_enter Tryz.func55,Tryz.ntmps55
  go_wp2;go_ret;exact⟨_,rfl,World.ownsRow_nil _ _ _ _,Below.refl _ _⟩
 | some ad =>
  generalize G:flatF f=X at d i j ⊢;generalize f.length=L at H d j ⊢;clear m g G
  go_enter Tryz.func55,Tryz.ntmps55
  go_wp2_with (at_builtin;refine zb1 rfl _ _ 23 rfl w.heap.size 43 B (.agg #[.string ⟨#[]⟩,.string ⟨#[]⟩,.int .i64 0,.int .i64 0,.int .i64 0,.int .i64 0]) 6 64 Tryz.underlying23 C D E z rfl (by decide) _ 0 [] rfl (World.ownsRow_made w #[] 0 (Nat.le_refl _) (Nat.zero_le _) (by simp)) (some ad) L p X rfl ?qa1 ?qa2 ?qa3 ?qa4 ?qa5 ?qa6 ?_)
  case qa1=>exact j
  case qa2=>exact d
  case qa3=>exact i
  case qa4=>unfold maxLen;omega
  case qa5=>omega
  case qa6=>exact l.size
  intro F u r s _;have y:BL w u:=l.grown s l.size (fun k hk=>by simp[Value.ownBlock]at hk;omega);have A:Hid (u.ownsRow w.heap.size 43 6 F L X):=by
   show u.ownsRow _ _ _ _ _ _;simpa using r
  clear r s;go_wp2;go_ret;exact⟨_,rfl,A.out,y⟩
def put6 (W:World) (g x:Nat) (f:Fl):World:=(((((W.setCell ⟨g,x,none⟩ (.string f.1)).setCell ⟨g,x+1,none⟩ (.string f.2.1)).setCell ⟨g,x+2,none⟩ (.int .i64 f.2.2.1)).setCell ⟨g,x+3,none⟩ (.int .i64 f.2.2.2.1)).setCell ⟨g,x+4,none⟩ (.int .i64 f.2.2.2.2.1)).setCell ⟨g,x+5,none⟩ (.int .i64 f.2.2.2.2.2)
def set6 (cur:Array Value) (x:Nat) (f:Fl):Array Value:=(((((cur.setIfInBounds x (.string f.1)).setIfInBounds (x+1) (.string f.2.1)).setIfInBounds (x+2) (.int .i64 f.2.2.1)).setIfInBounds (x+3) (.int .i64 f.2.2.2.1)).setIfInBounds (x+4) (.int .i64 f.2.2.2.2.1)).setIfInBounds (x+5) (.int .i64 f.2.2.2.2.2)
theorem zc5f {W:World} {g x:Nat} {f:Fl} {b:Array Value} {T:TypeId} (h:W.heap[g]? =some (.cells b T (0,0))):(put6 W g x f).heap[g]? =some (.cells (set6 b x f) T (0,0)) :=
 heap_setCell_same _ _ _ _ _ _ (heap_setCell_same _ _ _ _ _ _ (heap_setCell_same _ _ _ _ _ _ (heap_setCell_same _ _ _ _ _ _ (heap_setCell_same _ _ _ _ _ _ (heap_setCell_same _ _ _ _ _ _ h)))))
theorem zc5g {c W:World} {B g x:Nat} {f:Fl} (h:Below B c W) (b:B<=g):Below B c (put6 W g x f):=(((((h.setCell b _).setCell b _).setCell b _).setCell b _).setCell b _).setCell b _
theorem zc5h (b:Array Value) (x:Nat) (f:Fl):(set6 b x f).size=b.size:=by simp[set6]
theorem zc5i (b:Array Value) (x:Nat) (f:Fl) (c:Nat) (d:c<6) (g:x+6<=b.size):(set6 b x f)[x+c]? =(encF f)[c]? :=by
 obtain rfl | rfl | rfl | rfl | rfl | rfl:c=0\/c=1\/c=2\/c=3\/c=4\/c=5:=by omega
 all_goals
  simp only[set6,Array.getElem?_setIfInBounds,Array.size_setIfInBounds,encF];simp
  try omega
theorem za9r (b:Array Value) (x:Nat) (f:Fl) (y:Nat) (c:y<x\/x+6<=y):(set6 b x f)[y]? =b[y]? :=by
 simp only[set6,Array.getElem?_setIfInBounds];rw[if_neg (by omega),if_neg (by omega),if_neg (by omega),if_neg (by omega),if_neg (by omega),if_neg (by omega)]
theorem zero6 (z:Array Value) (n:Nat) (h:∀v∈z,v.oneCell'=true) (d:0<z.size):∀v∈(Builtin.zeroCells z n).toList,v.oneCell'=true:=by
 intro v c;simp only[Builtin.zeroCells,Array.toList_map,List.mem_map]at c;obtain⟨i,_,rfl⟩:=c;have b:i % z.size<z.size:=Nat.mod_lt _ d;rw[getElem!_pos z _ b];exact h _ (Array.getElem_mem b)
theorem zc5j (w:World) (l:TypeId) (b o n c:Nat) (u:0<n) (p:∀j,j<n*6->(w.cell? ⟨b,o+j,none⟩).isSome=true) (q:∀j,w.frozen? ⟨b,j,none⟩=false) :
  (Builtin.clear_ #[23] l #[.slice (some ⟨b,o,none⟩) n c]).run Tryz.prog w= .ok (.tuple #[]) (w.setCells b o (Builtin.zeroCells (Value.cells (.agg #[.string ⟨#[]⟩,.string ⟨#[]⟩,.int .i64 0,.int .i64 0,.int .i64 0,.int .i64 0])) n).toList):=by
 obtain⟨s,i,k,t,r⟩:=Tryz.fileInfo;have d:∀w,(zeroValue 43).run Tryz.prog w= .ok (.agg #[.string ⟨#[]⟩,.string ⟨#[]⟩,.int .i64 0,.int .i64 0,.int .i64 0,.int .i64 0]) w:=fun w=>by simp[zeroValue,typeInfo,i,k]
 have g:(Builtin.zeroCells (Value.cells (.agg #[.string ⟨#[]⟩,.string ⟨#[]⟩,.int .i64 0,.int .i64 0,.int .i64 0,.int .i64 0])) n).toList.length=n*6:=by
  rw[Array.length_toList,size_zeroCells];rfl
 have f:=run_storeCells_cells (P:=Tryz.prog) b o (Builtin.zeroCells (Value.cells (.agg #[.string ⟨#[]⟩,.string ⟨#[]⟩,.int .i64 0,.int .i64 0,.int .i64 0,.int .i64 0])) n).toList 0 w (by rw[g];simpa using p) (fun j _=>q _) (zero6 _ _ (by intro v d;simp[Value.cells]at d;rcases d with rfl | rfl<;>rfl) (by decide))
 simp only[Nat.add_zero]at f;obtain⟨m,rfl⟩:∃m,n=m+1:=⟨n-1,by omega⟩;simp[Builtin.clear_,run_underlying Tryz.underlying23,d,f]
theorem za9s {T:TypeId} {b:Nat} :∀(vs:List Value) (o:Nat) (w:World) (cur:Array Value),w.heap[b]? =some (.cells cur T (0,0))->∃cur',(w.setCells b o vs).heap[b]? =some (.cells cur' T (0,0))/\cur'.size=cur.size/\∀y,y<o->cur'[y]? =cur[y]?
 | [],_,_,cur,h=>⟨cur,h,rfl,fun _ _=>rfl⟩
 | v :: r,o,w,cur,h=>by
  obtain⟨cur',c,d,f⟩:=za9s r (o+1) (w.setCell ⟨b,o,none⟩ v) _ (heap_setCell_same w b o cur T v h);refine⟨cur',c,by rw[d];simp,fun y hy=>?_⟩;rw[f y (by omega),Array.getElem?_setIfInBounds,if_neg (by omega)]
theorem za9t {b B:Nat} :∀(vs:List Value) (o:Nat) (W0 w:World),Below B W0 w->B<=b->Below B W0 (w.setCells b o vs)
 | [],_,_,_,h,_=>h
 | _ :: r,o,W0,_,h,hb=>za9t r (o+1) W0 _ (h.setCell hb _) hb
def DelInv (W:World) (g C:Nat) (P:Fl->Bool) (fs:List Fl) (i j:Nat):Prop :=
 ∃cur:Array Value,W.heap[g]? =some (.cells cur 43 (0,0))/\cur.size=C/\i=(kept P fs j).length/\(∀(t:Nat) (u:Value),(flatF (kept P fs j))[t]? =some u->cur[t]? =some u)/\∀(t:Nat) (u:Value),j*6<=t->(flatF fs)[t]? =some u->cur[t]? =some u
theorem DelInv.below {W d:World} {g C:Nat} {P:Fl->Bool} {f:List Fl} {i j:Nat} (h:DelInv W g C P f i j) (l:BL W d):DelInv d g C P f i j:=by
 obtain⟨b,c,k⟩:=h;exact⟨b,(l.block g (lt_of_block c)).trans c,k⟩
theorem DelInv.skip {W:World} {g C:Nat} {P:Fl->Bool} {b:List Fl} {i j:Nat} (h:DelInv W g C P b i j) (n:j<b.length) (o:P b[j]=false):DelInv W g C P b i (j+1):=by
 obtain⟨c,d,f,k,l,m⟩:=h;have e:kept P b (j+1)=kept P b j:=by rw[zi8 P b j n,if_neg (by rw[o];simp)]
 exact⟨c,d,f,by rw[e];exact k,by rw[e];exact l,fun t u ht=>m t u (by omega)⟩
theorem DelInv.cell {W:World} {g C:Nat} {P:Fl->Bool} {b:List Fl} {i j:Nat} (h:DelInv W g C P b i j) (m:j<b.length) (c:Nat) (d:c<6):W.cell? ⟨g,j*6+c,none⟩=(encF b[j])[c]? :=by
 obtain⟨n,k,o,p,q,l⟩:=h;have e:=zl4 b j c m d;have f:c<(encF b[j]).length:=by rw[zh1];exact d
 rw[List.getElem?_eq_getElem f]at e ⊢;rw[cell_of_row _ _ _ _ _ _ k];exact l _ _ (by omega) e
theorem DelInv.old {W:World} {g C:Nat} {P:Fl->Bool} {c:List Fl} {i j:Nat} (h:DelInv W g C P c i j) (x:Nat) (k:x<C):∃u,W.cell? ⟨g,x,none⟩=some u:=by
 obtain⟨d,b,f,_⟩:=h;rw[cell_of_row _ _ _ _ _ _ b];exact⟨_,Array.getElem?_eq_getElem (by omega)⟩
theorem DelInv.fz {W:World} {g C:Nat} {P:Fl->Bool} {c:List Fl} {i j:Nat} (h:DelInv W g C P c i j) (x:Nat):W.frozen? ⟨g,x,none⟩=false:=by
 obtain⟨d,b,_⟩:=h;exact frozen_of_row _ _ _ _ _ b
theorem DelInv.le {W:World} {g C:Nat} {P:Fl->Bool} {c:List Fl} {i j:Nat} (h:DelInv W g C P c i j):i<=j:=by
 obtain⟨d,f,k,b,_⟩:=h;rw[b];exact zx5 _ _ _
theorem DelInv.keep {W:World} {g C:Nat} {P:Fl->Bool} {b:List Fl} {i j:Nat} (h:DelInv W g C P b i j) (s:j<b.length) (z:b.length*6<=C) (v:P b[j]=true):DelInv (put6 W g (i*6) b[j]) g C P b (i+1) (j+1):=by
 have y:=h.le;obtain⟨c,o,p,k,q,r⟩:=h;have e:kept P b (j+1)=kept P b j++ [b[j]]:=by rw[zi8 P b j s,if_pos v]
 refine⟨set6 c (i*6) b[j],zc5f o,by rw[zc5h];exact p,by rw[e,List.length_append,<-k];rfl,fun t u hu=>?_,fun t u ht hu=>?_⟩
 ·rw[e,zb7]at hu;have m:(flatF (kept P b j)).length=i*6:=by rw[zb2,<-k]
  rcases Nat.lt_or_ge t (i*6) with l | l
  ·rw[za9r _ _ _ _ (Or.inl l)];rw[List.getElem?_append_left (by omega)]at hu;exact q t u hu
  ·rw[List.getElem?_append_right (by omega),m]at hu;have f:t-i*6<6:=by
    rcases Nat.lt_or_ge (t-i*6) 6 with d | d
    ·exact d
    ·rw[List.getElem?_eq_none (by simp[flatF,encF];omega)]at hu;cases hu
   have n:flatF [b[j]]=encF b[j]:=by simp[flatF]
   rw[n]at hu;have:=zc5i c (i*6) b[j] (t-i*6) f (by omega);rw[show i*6+(t-i*6)=t by omega]at this;rw[this];exact hu
 ·rw[za9r _ _ _ _ (Or.inr (by omega))];exact r t u (by omega) hu
theorem zc5k (b:List Fl) (n:Nat) (d:n<=b.length):(flatF b).take (n*6)=flatF (b.take n):=by
 have e:b=b.take n++b.drop n:=(List.take_append_drop n b).symm
 conv=>lhs;rw[e,zb7]
 have c:(flatF (b.take n)).length=n*6:=by rw[zb2,List.length_take,Nat.min_eq_left d]
 rw[<-c,List.take_left]
theorem za9u {P:Fl->Bool} {b:List Fl} :∀n,n<=b.length->(∀j (h:j<b.length),j<n->P b[j]=true)->kept P b n=b.take n
 | 0,_,_=>by simp[kept]
 | n+1,hn,h=>by
  rw[zi8 P b n (by omega),if_pos (h n (by omega) (by omega)),za9u n (by omega) (fun j hj hjn=>h j hj (by omega)),List.take_succ_eq_append_getElem (by omega)]
theorem zc5l {W:World} {g f:Nat} {c:Array Value} {P:Fl->Bool} {b:List Fl} {k:Nat} (m:W.heap[g]? =some (.cells c 43 (0,0))) (n:c.size=f*6) (o:c.toList.take (b.length*6)=flatF b) (p:k<b.length) (q:∀j (h:j<b.length),j<k->P b[j]=true) (r:P b[k]=false) :
  DelInv W g (f*6) P b k (k+1):=by
 have d:∀t u,(flatF b)[t]? =some u->c[t]? =some u:=fun t u hu=>by
  have l:t<b.length*6:=by
   rw[<-zb2];rcases Nat.lt_or_ge t (flatF b).length with i | i
   ·exact i
   ·rw[List.getElem?_eq_none i]at hu;cases hu
  rw[<-o,List.getElem?_take,if_pos l,Array.getElem?_toList]at hu;exact hu
 have e:kept P b (k+1)=b.take k:=by rw[zi8 P b k p,if_neg (by rw[r];simp),za9u k (by omega) q]
 refine⟨c,m,n,by rw[e,List.length_take];omega,fun t u hu=>?_,fun t u _ hu=>d t u hu⟩;rw[e,<-zc5k b k (by omega)]at hu;rw[List.getElem?_take]at hu;split at hu
 ·exact d t u hu
 ·cases hu
theorem zc5m {W:World} {B g b:Nat} {P:Fl->Bool} {d:List Fl} {i:Nat} {c:Array Value} (l:B<=g) (m:W.heap[g]? =some (.cells c 43 (0,0))) (n:c.size=b*6) (o:b<=maxLen) (hi:i=(d.filter P).length) (p:i<=b) (j:∀(t:Nat) (u:Value),(flatF (d.filter P))[t]? =some u->c[t]? =some u) :
  W.ownsRow B 43 6 (.slice (some ⟨g,0,none⟩) i b) (d.filter P).length (flatF (d.filter P)):=by
 refine⟨by rw[zb2],Or.inr ⟨g,b,c,by rw[hi],l,m,by omega,o,n,?_⟩⟩;apply List.ext_getElem?;intro t;rw[List.getElem?_take,Array.getElem?_toList];by_cases f:t<(d.filter P).length*6
 ·rw[if_pos f];have k:t<(flatF (d.filter P)).length:=by rw[zb2];exact f
  rw[List.getElem?_eq_getElem k];exact j t _ (List.getElem?_eq_getElem k)
 ·rw[if_neg f,List.getElem?_eq_none (by rw[zb2];omega)]
theorem AskF.later {g:Nat} {b:Array Value} {p:Fl->Bool} {c:List Fl} {w w':World} (h:AskF g b p c w) (d:BL w w'):AskF g b p c w':=fun f hf W hW=>h f hf W (trB d hW)
theorem zc5n (g:Nat) (cb:Array Value) (p:Fl->Bool) (v:Value) (d:List Fl) (w0 w:World) (af:BL w0 w) (ho:w.ownsRow w0.heap.size 43 6 v d.length (flatF d)) (hl:d.length<=20000) (eg:∀args w,(callFunc g args).run Tryz.prog w= .ok (.enter g args) w) (hp:AskF g cb p d w0) :
  Calls Tryz.prog 54 #[v,.func (.func g) #[] cb] w fun e w'=> ∃v',e= .returned v'/\w'.ownsRow w0.heap.size 43 6 v' (d.filter fun f=> !p f).length (flatF (d.filter fun f=> !p f))/\BL w0 w':=by
 have hx:=(zd3 ho).1;have Q:=za8g g cb p v d w hx hl eg (hp.later af);have S:Hid (w.ownsRow w0.heap.size 43 6 v d.length (flatF d)):=ho;have ag:Hid (BL w0 w):=af;have HP:Hid (AskF g cb p d w0):=hp;have ah:Hid (d.any p=false->(d.filter fun f=> !p f)=d):=fun h=>List.filter_eq_self.2 fun f hf=>by
  have:=List.any_eq_false.1 h f hf;simpa using this
 obtain⟨q,l,rfl⟩:=hx.form;obtain⟨L,hL⟩:∃L,d.length=L:=⟨_,rfl⟩;have M:Hid (d.length=L):=hL;rw[hL]at Q hl ⊢;obtain⟨RS,ad⟩:∃R,(d.filter fun f=> !p f)=R:=⟨_,rfl⟩;have T:Hid ((d.filter fun f=> !p f)=RS):=ad;rw[ad];clear hx ho af hp hL ad
 go_enter Tryz.func54,Tryz.ntmps54
 go_wp2_with fail
 refine Q.mono ?_;rintro e w1 ⟨i,rfl,hi,ae⟩;clear Q;have U:Hid (BL w w1):=ae;have V:Hid (BL w0 w1):=ag.out.trans (ae.mono ag.out.size);clear ae;rcases hi with⟨rfl,ha⟩|⟨k,hk,rfl,an,ao,-⟩
 ·have HA:Hid (RS=d):=by show _=_;rw[<-T.out];exact ah.out ha
  clear ha;go_wp2;go_ret;refine⟨_,rfl,?_,V.out⟩;rw[HA.out];have h:=za8 (P:=fun _=>False) S.out (But.of_below U.out) (fun _ _ h=>h);rw[M.out]at h ⊢;exact h
 ·obtain⟨b,y,rfl,hb,hg,a8,aj,ak,al⟩:∃b y,q=some ⟨b,0,none⟩/\w0.heap.size<=b/\w1.heap[b]? =some (.cells y 43 (0,0))/\L<=l/\l<=maxLen/\y.size=l*6/\y.toList.take (d.length*6)=flatF d:=by
   rcases S.out.2 with⟨e,h0⟩|⟨b,c,y,e,hb,hg,h1,h2,N,h4⟩
   ·rw[h0]at hk;exact absurd hk (Nat.not_lt_zero _)
   ·injection e with e1 e2 e3;subst e3;exact⟨b,y,e1,hb,(U.out.block b (lt_of_block hg)).trans hg,by rw[<-M.out];exact h1,h2,N,h4⟩
  have ar:Hid (DelInv w1 b (l*6) (fun f=> !p f) d k (k+1)):=zc5l hg ak al hk (fun j hj hjk=>by simpa using ao j hj hjk) (by simpa using an);have au:k<L:=by rw[<-M.out];exact hk
  have ap:((k:Int) == -1)=false:=beq_eq_false_iff_ne.2 (by omega);have X:Hid (w0.heap.size<=b):=hb;have av:Hid (l<=maxLen):=aj;clear hg ak al an ao hk S U ah hb aj;have aw:IntKind.i64.wrap ((k:Int)+1)=(k:Int)+1:=IntWalk.i64_in _ (by omega)
  go_wp2_with fail
  go_loopg [5,6,7] L (fun gg s5 s6 _ wr=> ∃(i j:Nat),s5= .int .i64 i/\s6= .int .i64 j/\j<=L/\L-j<=gg/\i<j/\BL w0 wr/\DelInv wr b (l*6) (fun f=> !p f) d i j)
  case atStart=>exact ⟨k,k+1,rfl,by go_num,by omega,by omega,by omega,V.out,ar.out⟩
  case round =>
   clear ap aw au;obtain⟨i,j,rfl,rfl,a9,ba,bb,am,hD⟩:=hrel;have z:Hid (DelInv wr b (l*6) (fun f=> !p f) d i j):=hD;have D:Hid (BL w0 wr):=am;clear hD;by_cases ai:j<L
   ·have m:j<d.length:=by rw[M.out];exact ai
    have aq:(j:Int)<(L:Int):=by omega
    have Y:=z.out.cell m 0 (by omega);have c1:=z.out.cell m 1 (by omega);have c2:=z.out.cell m 2 (by omega);have c3:=z.out.cell m 3 (by omega);have c4:=z.out.cell m 4 (by omega);have c5:=z.out.cell m 5 (by omega);have C:=zr8 wr d[j];have r:=zr9 wr d[j];have n:=HP.out d[j] (List.getElem_mem _) (boxW wr d[j]) (trB am r);unfold boxW at C r n;have J:Hid (p d[j]=true->∀W,BL wr W->DelInv W b (l*6) (fun f=> !p f) d i (j+1)):=fun h W hW=>(z.out.below hW).skip m (by simp[h]);have E:Hid (p d[j]=false->∀W,BL wr W->DelInv (put6 W b (i*6) d[j]) b (l*6) (fun f=> !p f) d (i+1) (j+1)):=fun h W hW=>(z.out.below hW).keep m (by rw[M.out];omega) (by simp[h]);simp only[encF,List.getElem?_cons_succ,List.getElem?_cons_zero]at Y c1 c2 c3 c4 c5;generalize d[j]=f at Y c1 c2 c3 c4 c5 C r n J E;clear m;unfold flV at n;obtain⟨fp,fq,fn,F,G,B⟩:=f;dsimp only at Y c1 c2 c3 c4 c5 C r n E;have ax:(0:Int)<=(j:Int):=by omega
    have a0:(i:Int)<(L:Int):=by omega
    have ay:(0:Int)<=(i:Int):=by omega
    have a1:IntKind.i64.wrap ((j:Int)+1)=(j:Int)+1:=IntWalk.i64_in _ (by omega);have a2:IntKind.i64.wrap ((i:Int)+1)=(i:Int)+1:=IntWalk.i64_in _ (by omega);rw[Nat.add_zero]at Y
    go_upto_region 8 with fail
    clear Y c1 c2 c3 c4 c5;generalize wr.alloc (.cells #[.string fp,.string fq,.int .i64 fn,.int .i64 F,.int .i64 G,.int .i64 B] 43)=W5 at C r n ⊢;obtain⟨b0,b1,b2,b3,b4,b5,-⟩:=C.cells;dsimp only at b0 b1 b2 b3 b4 b5
    cases O:p (fp,fq,fn,F,G,B) with
    | true =>
     rw[O]at n;have Z:=J.out O;have K:Hid (∀W,BL wr W->DelInv W b (l*6) (fun f=> !p f) d i (j+1)):=Z;clear J E Z O
     go_wp2_with (go_at_fn g;refine n.mono ?_;rintro e I ⟨rfl,o⟩)
     have A:BL wr I:=trB r o
     go_roundg (L-(j+1))
     case measure=>omega
     case rel=>exact ⟨i,j+1,rfl,by go_num,by omega,Nat.le_refl _,by omega,D.out.trans (A.mono D.out.size),K.out I A⟩
    | false =>
     rw[O]at n;have aa:=E.out O;have K:Hid (∀W,BL wr W->DelInv (put6 W b (i*6) (fp,fq,fn,F,G,B)) b (l*6) (fun f=> !p f) d (i+1) (j+1)):=aa;clear J E aa O
     go_upto_region 9 with(go_at_fn g;refine n.mono ?_;rintro e I ⟨rfl,o⟩)
     have A:BL wr I:=trB r o;have s:=z.out.below A;have d0:=za0 o b0;have d1:=za0 o b1;have d2:=za0 o b2;have d3:=za0 o b3;have d4:=za0 o b4;have d5:=za0 o b5;obtain⟨u0,o0⟩:=s.old (i*6) (by omega);obtain⟨u1,o1⟩:=s.old (i*6+1) (by omega);obtain⟨u2,o2⟩:=s.old (i*6+2) (by omega);obtain⟨u3,o3⟩:=s.old (i*6+3) (by omega);obtain⟨u4,o4⟩:=s.old (i*6+4) (by omega);obtain⟨u5,o5⟩:=s.old (i*6+5) (by omega);have fz:=fun x=>s.fz x;have ab:Hid (DelInv (put6 I b (i*6) (fp,fq,fn,F,G,B)) b (l*6) (fun f=> !p f) d (i+1) (j+1)):=K.out I A;have ac:Hid (BL w0 (put6 I b (i*6) (fp,fq,fn,F,G,B))):=zc5g (D.out.trans (A.mono D.out.size)) X.out;unfold put6 at ab ac;dsimp only at ab ac;clear b0 b1 b2 b3 b4 b5 n o A s K C r;go_wp2
     go_roundg (L-(j+1))
     case measure=>omega
     case rel=>exact ⟨i+1,j+1,by go_num,by go_num,by omega,Nat.le_refl _,by omega,ac.out,ab.out⟩
   ·obtain rfl:j=L:=by omega
    have aq:¬(j:Int)<(j:Int):=by omega
    have a3:¬l=i:=by omega
    have a4:(i:Int)<=(j:Int):=by omega
    have a5:(0:Int)<=(i:Int):=by omega
    have a6:(j:Int)<=(l:Int):=by omega
    have a7:(i:Int)<=(l:Int):=by omega
    have n:∀ty,(Builtin.clear_ #[23] ty #[.slice (some ⟨b,i*6,none⟩) (j-i) (l-i)]).run Tryz.prog wr= .ok (.tuple #[]) (wr.setCells b (i*6) (Builtin.zeroCells (Value.cells (.agg #[.string ⟨#[]⟩,.string ⟨#[]⟩,.int .i64 0,.int .i64 0,.int .i64 0,.int .i64 0])) (j-i)).toList) :=
     fun ty=>zc5j wr ty b (i*6) (j-i) (l-i) (by omega) (fun t ht=>by
      obtain⟨u,hu⟩:=z.out.old (i*6+t) (by omega);rw[hu];rfl) (fun t=>z.out.fz t)
    have H:Hid (BL w0 (wr.setCells b (i*6) (Builtin.zeroCells (Value.cells (.agg #[.string ⟨#[]⟩,.string ⟨#[]⟩,.int .i64 0,.int .i64 0,.int .i64 0,.int .i64 0])) (j-i)).toList)/\(wr.setCells b (i*6) (Builtin.zeroCells (Value.cells (.agg #[.string ⟨#[]⟩,.string ⟨#[]⟩,.int .i64 0,.int .i64 0,.int .i64 0,.int .i64 0])) (j-i)).toList).ownsRow w0.heap.size 43 6 (.slice (some ⟨b,0,none⟩) i l) RS.length (flatF RS)):=by
     refine⟨za9t _ _ _ _ D.out X.out,?_⟩;obtain⟨y,h1,h2,N,h4,_⟩:=z.out;obtain⟨az,g1,g2,g3⟩:=za9s (Builtin.zeroCells (Value.cells (.agg #[.string ⟨#[]⟩,.string ⟨#[]⟩,.int .i64 0,.int .i64 0,.int .i64 0,.int .i64 0])) (j-i)).toList (i*6) wr y h1;have e:kept (fun f=> !p f) d j=RS:=by rw[<-M.out,zx6];exact T.out
     rw[e]at N h4;rw[<-T.out]at N h4 ⊢;refine zc5m X.out g1 (g2.trans h2) av.out N (by omega) (fun t u hu=>?_);have ai:t<i*6:=by
      rw[N,<-zb2];rcases Nat.lt_or_ge t (flatF (d.filter fun f=> !p f)).length with h' | h'
      ·exact h'
      ·rw[List.getElem?_eq_none h']at hu;cases hu
     rw[g3 t (by omega)];exact h4 t u hu
    generalize wr.setCells b (i*6) (Builtin.zeroCells (Value.cells (.agg #[.string ⟨#[]⟩,.string ⟨#[]⟩,.int .i64 0,.int .i64 0,.int .i64 0,.int .i64 0])) (j-i)).toList=WE at n H;go_wp2;go_ret;exact⟨_,rfl,H.out.2,H.out.1⟩
structure ErrsX (W:World) (a:Nat->Addr):Prop where
 cell:∀i,i<12->i≠10->W.cell? ⟨errVar i,0,none⟩=some (.iface 325 (.pointer (some (a i))))
 hand:Hand W
 base:EnvS W
theorem ErrsX.below {W c:World} {a:Nat->Addr} (h:ErrsX W a) (b:BL W c):ErrsX c a :=
 ⟨fun i hi hn=>za0 b (h.cell i hi hn),h.hand.below b,h.base.below b⟩
theorem ErrsX.f {W:World} {a:Nat->Addr} (h:ErrsX W a):EnvF W a :=
 ⟨⟨⟨h.cell 0 (by decide) (by decide),h.cell 1 (by decide) (by decide),h.cell 4 (by decide) (by decide),h.base.maxl,h.base.syn,h.base.tab⟩,h.cell 2 (by decide) (by decide),h.cell 7 (by decide) (by decide),h.cell 8 (by decide) (by decide),h.cell 9 (by decide) (by decide)⟩,h.cell 3 (by decide) (by decide)⟩
theorem ErrsX.l {W:World} {a:Nat->Addr} (h:ErrsX W a):EnvL W a :=
 ⟨h.f.lean,h.cell 5 (by decide) (by decide),h.cell 6 (by decide) (by decide),h.cell 7 (by decide) (by decide),h.cell 8 (by decide) (by decide)⟩
theorem ErrsX.o {W:World} {a:Nat->Addr} (h:ErrsX W a):EnvO W a where
 bound:=h.cell 1 (by decide) (by decide)
 name:=h.cell 4 (by decide) (by decide)
 miss:=h.cell 5 (by decide) (by decide)
 exist:=h.cell 6 (by decide) (by decide)
 full:=h.cell 7 (by decide) (by decide)
 off:=h.cell 11 (by decide) (by decide)
theorem zc5o (N:Nat):∀k,fpS N none (fun _=>0) newS.obs k->N<=k:=by
 rintro k (rfl | b | ⟨o,c,_⟩)
 ·exact Nat.le_refl _
 ·cases b
 ·cases c
theorem storeK2 (w:World) (a:Nat->Addr) (f:ErrsX w a):StoreK a w.heap.size (EMw w) SAtP where
 below W W' h hb:=Below.trans (h:BL w W) hb
 size W h:=Below.size (h:BL w W)
 ptr W v FP s h:=by
  obtain⟨b,d,q,rfl,rfl,c⟩:=h;exact⟨_,rfl⟩
 lt W v FP s k h hk:=by
  obtain⟨b,d,q,rfl,rfl,c⟩:=h;exact c.lt hk
 keep W W' v FP P s h hB hP:=by
  obtain⟨b,d,q,rfl,rfl,c⟩:=h;exact⟨b,d,q,rfl,rfl,c.keep hB hP⟩
 new W _:=(zc0j W).mono fun e w' ⟨he,c,hb⟩=>⟨_,_,he,⟨W.heap.size,none,_,rfl,rfl,c⟩,zc5o W.heap.size,hb⟩
 put W v FP s n t hm h hk hn ht:=by
  obtain⟨b,d,q,rfl,rfl,c⟩:=h;exact zc0w c hk (f.below hm).o n t hn ht
 get W v FP s n hm h hk hn:=by
  obtain⟨b,d,q,rfl,rfl,c⟩:=h;exact zc0l c (f.below hm).o n (by unfold maxLen;omega)
theorem scanK (w:World) (a:Nat->Addr) (b:ErrsX w a):ScanK a (EMw w) SAtP where
 rows W v FP st s vf lo hi hm hat ks hx hl hs:=zc2j (storeK2 w a b) (fun _ hW=>⟨(b.below hW).f,(b.below hW).hand,(b.below hW).l⟩) W v FP st s vf lo hi hm hat ks hx hl hs
 rows0 W s vf lo hi hm hx _ _:=zc2n (EM:=EMw w) (fun _ hW=>⟨(b.below hW).f,(b.below hW).hand,(b.below hW).l⟩) W s vf lo hi hm hx
end Go.Proofs.YtgckdomafbnmkaaGreatDoor
