/- By an AI agent. -/
import Derived.Test.YtgckdomafbnmkaaGreatDoorScanKs
set_option maxRecDepth 100000
set_option maxHeartbeats 16000000
namespace Go.Proofs.YtgckdomafbnmkaaGreatDoor
open Go.RowKit Go.Extern.Stop Go.Stop Go.Extern Go.Sort Go.Shelf Go.Lib
theorem zc5p {b:List Fl} {p:ByteArray} :∀j (hj:j<b.length),b[j].1=p->∃i,∃hi:i<b.length,b[i].1=p/\∀k (hk:k<b.length),k<i->b[k].1≠p:=by
 intro j
 induction j using Nat.strongRecOn with
 | ind j ih =>
  intro hj e;by_cases h:∃k,∃hk:k<b.length,k<j/\b[k].1=p
  ·obtain⟨k,hk,c,d⟩:=h;exact ih k c hk d
  ·exact⟨j,hj,e,fun k hk c d=>h ⟨k,hk,c,d⟩⟩
theorem za9v {b:List Fl} {f:Fl} (l:f∈b):∃n,∃hn:n<b.length,findF b f.1=n/\b[n].1=f.1:=by
 obtain⟨j,g,rfl⟩:=List.mem_iff_getElem.1 l;obtain⟨i,c,e,d⟩:=zc5p j g rfl;exact⟨i,c,zq7 c (fun k hk hki=>d k hk hki) e,e⟩
def dropB (ps:List ByteArray) (f:Fl):Bool:= !goneP f.1 && !inT ps f.1
theorem zc5q (b:List ByteArray) (m:Value) (f:Fl) (E:Nat) (w:World) (a:Nat->Addr) (h:EnvN w a) (F:w.cell? ⟨E,0,none⟩=some m) (s:TsAt w m b) (Q:b.length<=1000) (L:f.1.size<=100000) :
  Calls Tryz.prog 56 #[flV f,.pointer (some ⟨E,0,none⟩)] w fun e w'=>e= .returned (.bool (dropB b f))/\BL w w':=by
 have d:BL w (w.alloc (.cells #[.string f.1,.string f.2.1,.int .i64 f.2.2.1,.int .i64 f.2.2.2.1,.int .i64 f.2.2.2.2.1,.int .i64 f.2.2.2.2.2] 43)):=alB _ _;have i:=FlAt.new w f;have g:=zh9 f _ a (h.below d) L;have k:=za0 d F;have n:Hid (∀W,BL w W->Calls Tryz.prog 57 #[m,.string f.1] W fun e w'=>e= .returned (.bool (inT b f.1))/\w'=W):=fun W hW=>zc2v m b f.1 W (s.below hW) (by omega);have l:Hid (dropB b f=(!goneP f.1 && !inT b f.1)):=rfl;obtain⟨q,c,rfl⟩:=s.form;generalize b.length=O at *;generalize goneP f.1=G at g l;generalize inT b f.1=T at n l;generalize dropB b f=R at l ⊢;clear s F h;unfold flV at g ⊢
 go_enter Tryz.func56,Tryz.ntmps56
 go_upto_region 1 with fail
 obtain⟨I,J,K,t,u,r⟩:=f;dsimp only at *;generalize w.alloc (.cells #[.string I,.string J,.int .i64 K,.int .i64 t,.int .i64 u,.int .i64 r] 43)=P at d i g k ⊢;obtain⟨v,y,z,A,B,C,-⟩:=i.cells;dsimp only at v y z A B C
 go_wp2_with fail
 refine g.mono ?_;rintro e D ⟨rfl,j⟩;clear g v y z A B C;have p:BL w D:=trB d j;have H:=(i.below j).cells.1;have M:=za0 j k;dsimp only at H;clear i k d j;cases G
 ·have o:=n.out D p
  go_wp2_with fail
  refine o.mono ?_;rintro e N ⟨rfl,rfl⟩;clear o;go_wp2;go_ret;exact⟨by rw[l.out];simp,p⟩
 ·go_wp2;go_ret;exact⟨by rw[l.out];simp,p⟩
section
variable {a : Nat → Addr} {B : Nat} {EM : World → Prop} {SAt : World → Value → (Nat → Prop) → St → Prop}
end
theorem zc5r (s:ByteArray) (v:Value) (c:List ByteArray) (w:World) (h:TsAt w v c) (g:c.length<=20000) :
  Calls Tryz.prog 13 #[.string s,v] w fun e w'=>e= .returned (.bool (inT c s))/\w'=w:=by
 rcases h with⟨rfl,rfl⟩|⟨b,d,rfl,_,f⟩
 ·go_enter Tryz.func13,Tryz.ntmps13
  go_wp2
  go_loop [5] (fun k=>k= .int .i64 0) (fun _=>0)
  case atStart=>rfl
  case round =>
   obtain rfl:=hrel;go_wp2;go_ret;exact⟨rfl,rfl⟩
 ·exact za6i s b d c w f g
theorem zc5s {α:Type} {p:α->Bool} {b:List α} {m:Nat} (h:m<b.length):(b.take (m+1)).any p=((b.take m).any p || p b[m]):=by
 rw[List.take_succ_eq_append_getElem h,List.any_append];simp
theorem zc5t (v:Value) (c:List Fl) (w:World) (hx:FlsAt w v c) (hl:c.length<=100) (hg:∀f∈c,goneP f.1=decide (f.2.1.data.toList= [45])) :
  Calls Tryz.prog 24 #[v] w fun e w'=> ∃v',e= .returned v'/\TsAt w' v' (idleL c)/\BL w w':=by
 have HX:Hid (∀W,BL w W->FlsAt W v c):=fun W M=>hx.below M;have HG:Hid (∀f∈c,goneP f.1=decide (f.2.1.data.toList= [45])):=hg;obtain⟨q,av,rfl⟩:=hx.form;obtain⟨L,V⟩:∃L,c.length=L:=⟨_,rfl⟩;have HL:Hid (c.length=L):=V;have am:L<=100:=by omega
 have aa:Hid (idleN c L=idleL c):=by
  show _=_;unfold idleN idleL;rw[<-V,List.take_length]
 have ah:Hid (∀n,(idleN c n).length<=100):=fun n=>Nat.le_trans (za8q c n) hl;generalize idleL c=IL at aa ⊢;rw[V]at HX ⊢;clear hx hl V hg
 go_enter Tryz.func24,Tryz.ntmps24
 go_wp2
 go_loopw [3,4,5,6] (fun o i _ _ wr=> ∃n:Nat,n<=L/\i= .int .i64 n/\wr.ownsRow w.heap.size 9 1 o (idleN c n).length ((idleN c n).map Value.string)/\BL w wr) (fun _ i _ _ _=>L-(intOf i).toNat)
 case atStart=>exact ⟨0,by omega,rfl,World.ownsRow_nil _ _ _ _,Below.refl _ _⟩
 case round =>
 obtain⟨n,hn,rfl,ho,M⟩:=hrel;have O:Hid (wr.ownsRow w.heap.size 9 1 u3 (idleN c n).length ((idleN c n).map Value.string)):=ho;clear ho;by_cases ai:n<L
 case neg =>
  obtain rfl:n=L:=by omega
  have HT:Hid (TsAt wr u3 IL):=by
   have h':=zg1 O.out;rw[aa.out]at h';exact h'
  have an:¬(n:Int)<(n:Int):=by omega
  clear O;go_wp2;go_ret;exact⟨_,rfl,HT.out,M⟩
 case pos =>
 have d:n<c.length:=by rw[HL.out];exact ai
 obtain⟨b,o,s,X⟩:=(HX.out wr M).cells (fun e=>by rw[e]at d;simp at d);subst s;have ao:(n:Int)<(L:Int):=by omega
 have ap:(0:Int)<=(n:Int):=by omega
 have c1:=(X n d).2.1;have Q:Hid (∀W,BL wr W->∀m (N:m<c.length),W.cell? ⟨b,o+m*6+1,none⟩=some (.string c[m].2.1)/\W.cell? ⟨b,o+m*6+5,none⟩=some (.int .i64 c[m].2.2.2.2.2)):=fun W hW m N=>by
  obtain⟨_,k1,_,_,_,Y⟩:=X m N;exact⟨za0 hW k1,za0 hW Y⟩
 have y:Hid (∀W,BL wr W->W.cell? ⟨b,o+n*6,none⟩=some (.string c[n].1)/\W.cell? ⟨b,o+n*6+5,none⟩=some (.int .i64 c[n].2.2.2.2.2)):=fun W hW=>by
  obtain⟨k0,_,_,_,_,Y⟩:=X n d;exact⟨za0 hW k0,za0 hW Y⟩
 have l:=HG.out c[n] (List.getElem_mem _);have F:Hid (idleB c c[n]=true->idleN c (n+1)=idleN c n++ [c[n].1]):=fun e=>za8o d e;have z:Hid (idleB c c[n]=false->idleN c (n+1)=idleN c n):=fun e=>za8p d e;have A:Hid (∀m (N:m<c.length),(c.take (m+1)).any (olderB c[n])=((c.take m).any (olderB c[n]) || olderB c[n] c[m])):=fun m N=>zc5s N;have B:Hid ((c.take L).any (olderB c[n])=c.any (olderB c[n])):=by
  show _=_;rw[<-HL.out,List.take_length]
 generalize c[n]=g at c1 y l F z A B;obtain⟨D,E,Z,g3,g4,t⟩:=g;dsimp only at *;clear X d;by_cases K:E.data.toList= [45]
 case neg =>
  rw[decide_eq_false K]at l;have HS:Hid (idleN c (n+1)=idleN c n):=z.out (by unfold idleB;rw[l];rfl);have d1:(E.toList == [45])=false:=za7 K;clear F z A B Q y l K;go_wp2;go_roundw
  case rel=>exact ⟨n+1,by omega,by go_num,by rw[HS.out];exact O.out,M⟩
  case measure=>simp [intOf];omega
 case pos =>
 rw[decide_eq_true K]at l;have d1:(E.toList == [45])=true:=za6 K;have G:Hid (c.any (olderB (D,E,Z,g3,g4,t))=true->idleN c (n+1)=idleN c n):=fun e=>z.out (by unfold idleB;rw[l,e];rfl);have H:Hid (c.any (olderB (D,E,Z,g3,g4,t))=false->idleN c (n+1)=idleN c n++ [D]):=fun e=>F.out (by unfold idleB;rw[l,e];rfl);have R:Hid (∀f:Fl,olderB (D,E,Z,g3,g4,t) f=(!goneP f.1 && decide (f.2.2.2.2.2<t))):=fun _=>rfl;generalize al:olderB (D,E,Z,g3,g4,t)=u at *;clear F z l K al;obtain⟨S,ak⟩:∃W,W=wr:=⟨_,rfl⟩;subst ak;go_wp2
 go_loopw [5,6] (fun bv k wx=> ∃m:Nat,m<=L/\k= .int .i64 m/\bv= .bool ((c.take m).any u)/\BL S wx) (fun _ k _=>L-(intOf k).toNat)
 case atStart=>exact ⟨0,by omega,rfl,rfl,Below.refl _ _⟩
 case round =>
 obtain⟨m,N,rfl,rfl,j⟩:=hrel;by_cases af:m<L
 case pos =>
  have ab:m<c.length:=by rw[HL.out];exact af
  obtain⟨k1,Y⟩:=Q.out wr j m ab;have e5:=(y.out wr j).2;have ac:=HG.out c[m] (List.getElem_mem _);have hA:=A.out m ab;rw[R.out,ac]at hA;have C:Hid ((c.take (m+1)).any u=((c.take m).any u || (!decide (c[m].2.1.data.toList= [45]) && decide (c[m].2.2.2.2.2<t)))):=hA;have aq:(m:Int)<(L:Int):=by omega
  have ar:(0:Int)<=(m:Int):=by omega
  clear hA ac G H A B R;generalize (c.take m).any u=A0 at *;generalize c[m]=f at *;obtain⟨f0,f1,f2,f3,f4,f5⟩:=f;dsimp only at *;cases A0
  case true =>
   have p:Hid ((c.take (m+1)).any u=true):=by show _=_;rw[C.out];rfl
   clear C;go_wp2
   go_quiet (fail)
   have r:BL S (wr.drewN nq):=za4 j nq;go_wp2;go_roundw
   case rel=>exact ⟨m+1,by omega,by go_num,by rw[p.out],r⟩
   case measure=>simp [intOf];omega
  case false =>
  by_cases s:f1.data.toList= [45]
  case pos =>
   have p:Hid ((c.take (m+1)).any u=false):=by show _=_;rw[C.out,decide_eq_true s];rfl
   have d2:(f1.toList == [45])=true:=za6 s;clear C s;go_wp2
   go_quiet (fail)
   have r:BL S (wr.drewN nq):=za4 j nq;go_wp2;go_roundw
   case rel=>exact ⟨m+1,by omega,by go_num,by rw[p.out],r⟩
   case measure=>simp [intOf];omega
  case neg =>
  have d2:(f1.toList == [45])=false:=za7 s;by_cases U:f5<t
  case pos =>
   have d3:decide (f5<t)=true:=decide_eq_true U;have p:Hid ((c.take (m+1)).any u=true):=by show _=_;rw[C.out,decide_eq_false s,d3];rfl
   clear C s U;go_wp2
   go_quiet (fail)
   have r:BL S (wr.drewN nq):=za4 j nq;go_wp2;go_roundw
   case rel=>exact ⟨m+1,by omega,by go_num,by rw[p.out],r⟩
   case measure=>simp [intOf];omega
  case neg =>
   have d3:decide (f5<t)=false:=decide_eq_false U;have p:Hid ((c.take (m+1)).any u=false):=by show _=_;rw[C.out,decide_eq_false s,d3];rfl
   clear C s U;go_wp2
   go_quiet (fail)
   have r:BL S (wr.drewN nq):=za4 j nq;go_wp2;go_roundw
   case rel=>exact ⟨m+1,by omega,by go_num,by rw[p.out],r⟩
   case measure=>simp [intOf];omega
 case neg =>
 obtain rfl:m=L:=by omega
 have au:¬(m:Int)<(m:Int):=by omega
 have I:BL w wr:=trB M j;have J:Hid (wr.ownsRow w.heap.size 9 1 u3 (idleN c n).length ((idleN c n).map Value.string)):=za8 (P:=fun _=>False) O.out (But.of_below j) (fun _ _ h=>h);have e0:=(y.out wr j).1;rw[B.out];clear B A R Q y O c1;generalize c.any u=OB at *;cases OB
 case true =>
  have HS:Hid (idleN c (n+1)=idleN c n):=G.out rfl;clear G H;go_wp2;go_roundw
  case rel=>exact ⟨n+1,by omega,by go_num,by rw[HS.out];exact J.out,I⟩
  case measure=>simp [intOf];omega
 case false =>
  have ad:Hid (idleN c (n+1)=idleN c n++ [D]):=H.out rfl;have ag:BL wr (wr.alloc (.cells #[.string D] 9)):=alB _ _;obtain⟨v',W6,hr,ae,T,-⟩:=zg2 J.out I.size D rfl (by have:=ah.out n;omega);have aj:BL w W6:=I.trans (T.below I.size (fun k hk=>(za5 J.out hk).1));have HR:Hid (W6.ownsRow w.heap.size 9 1 v' (idleN c (n+1)).length ((idleN c (n+1)).map Value.string)):=by
   show World.ownsRow _ _ _ _ _ _ _;rw[ad.out];exact ae
  clear G H ad ae T ag J
  go_wp2_with (at_builtin;refine zd2 (by rfl) _ _ _ (by rfl) _ _ _ (by rfl) (by rfl) hr ?_)
  go_roundw
  case rel=>exact ⟨n+1,by omega,by go_num,HR.out,aj⟩
  case measure=>simp [intOf];omega
def dataB (fs:List Fl) (p:ByteArray):Bool:=hasP fs p && !goneP p
def rwE (obs:List Ob) (s:Sn) (ps:List ByteArray):Nat×Option Nat :=
 if (snapE s).1≠0 then snapE s else match ps.findIdx? (fun p=> !dataB s.2.2.2.2.2.2 p) with
 | some i=>(6,some i)
 | none=>((rowsS obs (snF s (s.2.2.2.2.2.2.filter fun f=> !dropB ps f)) minI maxI).2.1,none)
def rwR (obs:List Ob) (s:Sn) (ps:List ByteArray):List Rw:=if (rwE obs s ps).1=0 then (rowsS obs (snF s (s.2.2.2.2.2.2.filter fun f=> !dropB ps f)) minI maxI).1 else []
theorem za9w {obs:List Ob} {s:Sn} {b:List ByteArray} (h:(snapE s).1≠0):rwE obs s b=snapE s/\rwR obs s b= []:=by
 have e:rwE obs s b=snapE s:=by unfold rwE;rw[if_pos h]
 refine⟨e,?_⟩;unfold rwR;rw[e,if_neg h]
theorem za9x {obs:List Ob} {s:Sn} {b:List ByteArray} (h:(snapE s).1=0) {n:Nat} (d:n<b.length) (f:∀j (hj:j<b.length),j<n->dataB s.2.2.2.2.2.2 b[j]=true) (g:dataB s.2.2.2.2.2.2 b[n]=false):rwE obs s b=(6,some n)/\rwR obs s b= []:=by
 have c:b.findIdx? (fun p=> !dataB s.2.2.2.2.2.2 p)=some n:=by
  rw[List.findIdx?_eq_some_iff_getElem];exact⟨d,by rw[g];rfl,fun j hj=>by rw[f j (by omega) hj];simp⟩
 have e:rwE obs s b=(6,some n):=by unfold rwE;rw[if_neg (by simpa using h),c]
 refine⟨e,?_⟩;unfold rwR;rw[e,if_neg (by simp)]
theorem za9y {obs:List Ob} {s:Sn} {b:List ByteArray} (h:(snapE s).1=0) (i:∀j (hj:j<b.length),dataB s.2.2.2.2.2.2 b[j]=true):rwE obs s b=((rowsS obs (snF s (s.2.2.2.2.2.2.filter fun f=> !dropB b f)) minI maxI).2.1,none)/\rwR obs s b=(rowsS obs (snF s (s.2.2.2.2.2.2.filter fun f=> !dropB b f)) minI maxI).1:=by
 have c:b.findIdx? (fun p=> !dataB s.2.2.2.2.2.2 p)=none:=by
  rw[List.findIdx?_eq_none_iff];intro p d;obtain⟨j,hj,rfl⟩:=List.mem_iff_getElem.1 d;rw[i j hj];rfl
 have e:rwE obs s b=((rowsS obs (snF s (s.2.2.2.2.2.2.filter fun f=> !dropB b f)) minI maxI).2.1,none):=by unfold rwE;rw[if_neg (by simpa using h),c]
 refine⟨e,?_⟩;unfold rwR;rw[e];dsimp only;split
 ·rfl
 ·rename_i g;exact(za8e g).symm
def RwP (X:World) (a:Nat->Addr) (E:Nat×Option Nat) (R:List Rw) (e:Ending) (w':World):Prop:= ∃v ev,e= .returned (.tuple #[v,ev])/\ToldE w' a ev E/\RowsAt w' v R/\BL X w'
theorem zj9 (W:World):RowsAt W (.slice none 0 0) []:=Or.inl ⟨none,0,rfl,rfl⟩
theorem zc5u {W:World} {a:Nat->Addr} {b:Value} {c:Nat} {o:Option Nat} (h:ToldE W a b (c+1,o)):b=errV a (c+1)\/∃fb,b= .iface 101 (.pointer (some ⟨fb,0,none⟩))/\W.cell? ⟨fb,1,none⟩=some (errV a (c+1)):=by
 cases o with
 | none=>exact Or.inl h
 | some j =>
  obtain⟨_,fb,d,_,f⟩:=h;exact Or.inr ⟨fb,d,f⟩
theorem zc5v (E:Nat) (b:Value) (w:World) (a:Nat->Addr) (h:Hand w) (c:b=errV a (E+1)\/∃fb,b= .iface 101 (.pointer (some ⟨fb,0,none⟩))/\w.cell? ⟨fb,1,none⟩=some (errV a (E+1))) :
 Calls Tryz.prog 58 #[b] w fun e w'=>e= .returned (errV a (E+1))/\BL w w':=za5w E b w a h c
theorem zc5w (v:Value) (c:List Fl) (p:ByteArray) (w:World) (d:FlsAt w v c) (k:c.length<=1000) (g:findF c p= -1) :
  Calls Tryz.prog 53 #[v,.string p] w fun e w'=>e= .returned (.bool false)/\BL w w':=by
 have b:=za0q v c p w d (by omega);obtain⟨q,i,rfl⟩:=d.form;rw[g]at b;generalize c.length=L at *;clear d g
 go_enter Tryz.func53,Tryz.ntmps53
 go_wp2_with fail
 refine b.mono ?_;rintro e j ⟨rfl,f⟩;clear b;go_wp2;go_ret;exact⟨rfl,f⟩
theorem zc5x (v:Value) (c:List Fl) (p:ByteArray) (w:World) (a:Nat->Addr) (h:EnvN w a) (l:FlsAt w v c) (T:c.length<=1000) (s:∀f∈c,f.1.size<=100000) (J:hasP c p=true) :
  Calls Tryz.prog 53 #[v,.string p] w fun e w'=>e= .returned (.bool (!goneP p))/\BL w w':=by
 have d:=za0q v c p w l (by omega);obtain⟨n,g,t,r⟩:∃n,∃t:n<c.length,findF c p=n/\c[n].1=p:=by
  obtain⟨f,M,e⟩:=zs5.1 J;have i:=za9v M;rw[e]at i;exact i
 have j:Hid (∀W,BL w W->Calls Tryz.prog 39 #[flV c[n]] W fun e w'=>e= .returned (.bool (goneP p))/\BL W w'):=fun W hb=>by
  have i:=zh9 c[n] W a (h.below hb) (s _ (List.getElem_mem _));rw[r]at i;exact i
 have K:Hid (∀W,BL w W->FlsAt W v c):=fun W hb=>l.below hb;obtain⟨q,P,rfl⟩:=l.form;rw[t]at d;obtain⟨L,y⟩:∃L,c.length=L:=⟨_,rfl⟩;have O:n<L:=by omega
 obtain⟨b,o,N,z⟩:=l.cells (fun e=>by rw[e]at g;simp at g);subst N;have u:Hid (∀W,BL w W->W.cell? ⟨b,o+n*6,none⟩=some (.string c[n].1)/\W.cell? ⟨b,o+n*6+1,none⟩=some (.string c[n].2.1)/\W.cell? ⟨b,o+n*6+2,none⟩=some (.int .i64 c[n].2.2.1)/\W.cell? ⟨b,o+n*6+3,none⟩=some (.int .i64 c[n].2.2.2.1)/\W.cell? ⟨b,o+n*6+4,none⟩=some (.int .i64 c[n].2.2.2.2.1)/\W.cell? ⟨b,o+n*6+5,none⟩=some (.int .i64 c[n].2.2.2.2.2)):=fun W hb=>by
  obtain⟨A,B,C,D,E,F⟩:=z n g;exact⟨za0 hb A,za0 hb B,za0 hb C,za0 hb D,za0 hb E,za0 hb F⟩
 generalize goneP p=G at *;generalize c[n]=f at j u;rw[y]at d ⊢;clear l z r g t J s y K;unfold flV at j
 go_enter Tryz.func53,Tryz.ntmps53
 go_wp2_with fail
 refine d.mono ?_;rintro e H ⟨rfl,k⟩;clear d;obtain⟨A,B,C,D,E,F⟩:=u.out H k;have m:=j.out H k;have Q:(0:Int)<=(n:Int):=by omega
 have R:(n:Int)<(L:Int):=by omega
 go_wp2_with fail
 refine m.mono ?_;rintro e S ⟨rfl,I⟩;clear m;go_wp2;go_ret;exact⟨rfl,(trB k I)⟩
theorem zc5y (v:Value) (b:List Fl) (p:ByteArray) (w:World) (a:Nat->Addr) (h:EnvN w a) (g:FlsAt w v b) (i:b.length<=1000) (k:∀f∈b,f.1.size<=100000) :
  Calls Tryz.prog 53 #[v,.string p] w fun e w'=>e= .returned (.bool (dataB b p))/\BL w w':=by
 unfold dataB
 cases d:hasP b p with
 | true =>
  rw[Bool.true_and];exact zc5x v b p w a h g i k d
 | false =>
  rw[Bool.false_and];refine zc5w v b p w g i (zq8 fun j hj e=>?_);have c:=zs5.2 ⟨b[j],List.getElem_mem _,e⟩;rw[d]at c;cases c
section
variable {a : Nat → Addr} {B : Nat} {EM : World → Prop} {SAt : World → Value → (Nat → Prop) → St → Prop}
theorem zc5z {w:World} (K:StoreK a w.heap.size (upE EM w.heap.size) SAt) (KS:ScanK a (upE EM w.heap.size) SAt) (KL:∀X,BL w X->EnvL X a/\Hand X) (X:World) (pt:Addr) (FP:Nat->Prop) (l:St) (sb:Nat) (s0:Sn) (v0:Value) (hI:ScI EM SAt w X (.pointer (some pt)) FP l sb s0 v0) (hk:Keeps l) (s:Sn) (vf:Value) (hx:FlsAt X vf s.2.2.2.2.2.2) (hl:s.2.2.2.2.2.2.length<=100) (Z:Short s.2.2.2.2.2.2) (vp:Value) (d:List ByteArray) (hp:TsAt X vp d) (br:d.length<=1000) :
  Calls Tryz.prog 16 #[.pointer (some pt),snV s vf,vp] X fun e w'=>RwP X a (rwE l.obs s d) (rwR l.obs s d) e w':=by
 have eg:∀args w,(callFunc 56 args).run Tryz.prog w= .ok (.enter 56 args) w:=enters_of Tryz.func56 (by kernel_rfl) rfl;have a0:BL w X:=hI.ok.frame;have J:Hid (∀W,BL X W->EnvL W a/\Hand W):=fun W i=>KL W (trB a0 i);have HX:Hid (∀W,BL X W->FlsAt W vf s.2.2.2.2.2.2):=fun W i=>hx.below i;have HP:Hid (∀W,BL X W->TsAt W vp d):=fun W i=>hp.below i;have a1:Hid (∀W,BL X W->Calls Tryz.prog 45 #[snV s vf] W fun e w'=> ∃ev,e= .returned ev/\ToldE w' a ev (snapE s)/\BL W w'):=fun W i=>za8a s vf W a (J.out W i).1 (hx.below i) hl Z;have bu:Hid (∀W,BL X W->∀p∈d,Calls Tryz.prog 53 #[vf,.string p] W fun e w'=>e= .returned (.bool (dataB s.2.2.2.2.2.2 p))/\BL W w'):=fun W i p _=>zc5y vf s.2.2.2.2.2.2 p W a (J.out W i).1.file.env (hx.below i) (by omega) (fun f hf=>by have:=(Z f hf).1;omega);have bv:Hid (∀W,BL X W->Calls Tryz.prog 55 #[vf] W fun e w'=> ∃v',e= .returned v'/\w'.ownsRow W.heap.size 43 6 v' s.2.2.2.2.2.2.length (flatF s.2.2.2.2.2.2)/\BL W w'):=fun W i=>zc5e vf s.2.2.2.2.2.2 W (hx.below i) (by omega);have bw:Hid (∀W0 W v pb,BL X W0->W0.cell? ⟨pb,0,none⟩=some vp->BL W0 W->W.ownsRow W0.heap.size 43 6 v s.2.2.2.2.2.2.length (flatF s.2.2.2.2.2.2)->Calls Tryz.prog 54 #[v,.func (.func 56) #[] #[.pointer (some ⟨pb,0,none⟩)]] W fun e w'=> ∃v',e= .returned v'/\FlsAt w' v' (s.2.2.2.2.2.2.filter fun f=> !dropB d f)/\BL W0 w'):=fun W0 W v pb hb0 hc i ho=>(zc5n 56 #[.pointer (some ⟨pb,0,none⟩)] (dropB d) v s.2.2.2.2.2.2 W0 W i ho (by omega) eg (fun f hf Y hY=>zc5q d vp f pb Y a (J.out Y (trB hb0 hY)).1.file.env (za0 hY hc) ((hp.below hb0).below hY) br (by have:=(Z f hf).1;omega))).mono fun e w' ⟨v',he,ho',hb'⟩=>⟨v',he,(zd3 ho').1,hb'⟩;have af:Hid (∀W v,BL X W->FlsAt W v (s.2.2.2.2.2.2.filter fun f=> !dropB d f)->Calls Tryz.prog 14 #[.pointer (some pt),snV (snF s (s.2.2.2.2.2.2.filter fun f=> !dropB d f)) v,.int .i64 (-1073741824),.int .i64 1073741824] W fun e w'=> ∃v' ev,e= .returned (.tuple #[v',ev])/\RowsAt w' v' (rowsS l.obs (snF s (s.2.2.2.2.2.2.filter fun f=> !dropB d f)) minI maxI).1/\ToldE w' a ev (rowsS l.obs (snF s (s.2.2.2.2.2.2.filter fun f=> !dropB d f)) minI maxI).2/\BL W w'):=fun W v i hf=>by
  have a2:=hI.quiet K i;have h1:=KS.rows W _ FP l (snF s (s.2.2.2.2.2.2.filter fun f=> !dropB d f)) v (-1073741824) 1073741824 a2.ok.env a2.ok.at_ hk hf (Nat.le_trans (List.length_filter_le _ _) hl) (fun g hg=>Z g (List.mem_filter.1 hg).1);rw[za8d (by omega) (by omega) (show minI<= -1073741824 by unfold minI;omega) (show (1073741824:Int)<=maxI by unfold maxI;omega)]at h1;exact h1
 obtain⟨E,F,bi⟩:=hx.form;obtain⟨qp,cp,bj⟩:=hp.form;obtain⟨L,hL⟩:∃L,s.2.2.2.2.2.2.length=L:=⟨_,rfl⟩;obtain⟨A,au⟩:∃k,d.length=k:=⟨_,rfl⟩;have a3:Hid (d.length=A):=au;rw[hL]at bi;rw[au]at bj;have b8:A<=1000:=by omega
 subst bi bj;have ag:Hid ((snapE s).1≠0->rwE l.obs s d=snapE s/\rwR l.obs s d= []):=fun h=>za9w h;have ah:Hid ((snapE s).1=0->∀n (hn:n<d.length),(∀j (hj:j<d.length),j<n->dataB s.2.2.2.2.2.2 d[j]=true)->dataB s.2.2.2.2.2.2 d[n]=false->rwE l.obs s d=(6,some n)/\rwR l.obs s d= []):=fun h n hn h1 h2=>za9x h hn h1 h2;have ai:Hid ((snapE s).1=0->(∀j (hj:j<d.length),dataB s.2.2.2.2.2.2 d[j]=true)->rwE l.obs s d=((rowsS l.obs (snF s (s.2.2.2.2.2.2.filter fun f=> !dropB d f)) minI maxI).2.1,none)/\rwR l.obs s d=(rowsS l.obs (snF s (s.2.2.2.2.2.2.filter fun f=> !dropB d f)) minI maxI).1):=fun h h1=>za9y h h1;generalize rwE l.obs s d=U at *;generalize rwR l.obs s d=V at *;have bx:Hid ((rowsS l.obs (snF s (s.2.2.2.2.2.2.filter fun f=> !dropB d f)) minI maxI).2.1≠0->(rowsS l.obs (snF s (s.2.2.2.2.2.2.filter fun f=> !dropB d f)) minI maxI).1= []):=za8e;generalize rowsS l.obs (snF s (s.2.2.2.2.2.2.filter fun f=> !dropB d f)) minI maxI=RR at *;generalize (s.2.2.2.2.2.2.filter fun f=> !dropB d f)=FF at *;have hS:SnAt (X.alloc (.cells #[.int .i64 s.1,.int .i64 s.2.1,.int .i64 s.2.2.1,.int .i64 s.2.2.2.1,.int .i64 s.2.2.2.2.1,.string s.2.2.2.2.2.1,.slice E L F] 25)) X.heap.size s (.slice E L F):=SnAt.new X s _;have a4:BL X (X.alloc (.cells #[.int .i64 s.1,.int .i64 s.2.1,.int .i64 s.2.2.1,.int .i64 s.2.2.2.1,.int .i64 s.2.2.2.2.1,.string s.2.2.2.2.2.1,.slice E L F] 25)):=alB _ _;generalize b7:snapE s=SE at *;clear hI hx hp hk K KS KL a0 hl Z br hL au eg b7;unfold snV at a1 af ⊢;unfold snF at af;obtain⟨u,m,o,q,r,y,t⟩:=s;dsimp only at *
 go_enter Tryz.func16,Tryz.ntmps16
 have aj:Below (X.alloc (.cells #[.int .i64 u,.int .i64 m,.int .i64 o,.int .i64 q,.int .i64 r,.string y,.slice E L F] 25)).heap.size (X.alloc (.cells #[.int .i64 u,.int .i64 m,.int .i64 o,.int .i64 q,.int .i64 r,.string y,.slice E L F] 25)) ((X.alloc (.cells #[.int .i64 u,.int .i64 m,.int .i64 o,.int .i64 q,.int .i64 r,.string y,.slice E L F] 25)).alloc (.cells #[.slice qp A cp] 39)):=alB _ _;have M:=hS.below aj;have N:=trB a4 aj;have aa:((X.alloc (.cells #[.int .i64 u,.int .i64 m,.int .i64 o,.int .i64 q,.int .i64 r,.string y,.slice E L F] 25)).alloc (.cells #[.slice qp A cp] 39)).cell? ⟨X.heap.size+1,0,none⟩=some (.slice qp A cp):=by
  have e:(X.alloc (.cells #[.int .i64 u,.int .i64 m,.int .i64 o,.int .i64 q,.int .i64 r,.string y,.slice E L F] 25)).heap.size=X.heap.size+1:=by simp
  have h:=cell_of_row ((X.alloc (.cells #[.int .i64 u,.int .i64 m,.int .i64 o,.int .i64 q,.int .i64 r,.string y,.slice E L F] 25)).alloc (.cells #[.slice qp A cp] 39)) (X.alloc (.cells #[.int .i64 u,.int .i64 m,.int .i64 o,.int .i64 q,.int .i64 r,.string y,.slice E L F] 25)).heap.size 0 _ _ _ (heap_alloc_new _ _);rw[e]at h;rw[h];rfl
 clear hS a4 aj
 go_upto_region 1 with fail
 generalize ((X.alloc (.cells #[.int .i64 u,.int .i64 m,.int .i64 o,.int .i64 q,.int .i64 r,.string y,.slice E L F] 25)).alloc (.cells #[.slice qp A cp] 39))=W1 at *;obtain⟨P,av⟩:∃k,X.heap.size=k:=⟨_,rfl⟩;obtain⟨pb,bk⟩:∃k,X.heap.size+1=k:=⟨_,rfl⟩;have bz:Hid (X.heap.size=P):=av;rw[bk]at aa ⊢;rw[av]at M ⊢;clear av bk;obtain⟨z0,z1,z2,z3,z4,z5,z⟩:=M.cells;dsimp only at z0 z1 z2 z3 z4 z5 z;have ak:=a1.out W1 N
 go_wp2_with fail
 refine ak.mono ?_;rintro e w2 ⟨b5,rfl,S,G⟩;by_cases hE:SE.1=0
 case neg =>
  have b0:Hid (RwP X a U V (.returned (.tuple #[.slice none 0 0,b5])) w2):=by
   obtain⟨Q,R⟩:=ag.out hE;rw[Q,R];exact⟨_,_,rfl,S,zj9 w2,(trB N G)⟩
  obtain⟨tt,uu,rfl⟩:=S.bad hE;clear ak hE S ag ah ai z0 z1 z2 z3 z4 z5 z M aa N G;go_wp2;refine bodyPost_ret (v:=.tuple #[.slice none 0 0,.iface tt uu]) (by simp[results,Tryz.results16,go_sem]) rfl ?_;exact b0.out
 case pos =>
 obtain rfl:=S.ok hE;have al:Hid (∀n (hn:n<d.length),(∀j (hj:j<d.length),j<n->dataB t d[j]=true)->dataB t d[n]=false->U=(6,some n)/\V= []):=ah.out hE;have am:Hid ((∀j (hj:j<d.length),dataB t d[j]=true)->U=(RR.2.1,none)/\V=RR.1):=ai.out hE;clear ag ah ai S hE;have an:=M.below G;have a5:=za0 G aa;have a6:=trB N G;clear ak M aa N G z0 z1 z2 z3 z4 z5 z
 go_wp2_with fail
 go_loopw [9,10,23] (fun _ _ k wr=> ∃n:Nat,n<=A/\k= .int .i64 n/\(∀j (hj:j<d.length),j<n->dataB t d[j]=true)/\BL w2 wr) (fun _ _ k _=>A-(intOf k).toNat)
 case atStart=>exact ⟨0,by omega,rfl,fun j _ h=>absurd h (Nat.not_lt_zero j),Below.refl _ _⟩
 case round =>
 obtain⟨n,hn,rfl,aw,i⟩:=hrel;have H:Hid (∀j (hj:j<d.length),j<n->dataB t d[j]=true):=aw;clear aw;have B:=trB a6 i;by_cases b1:n<A
 case pos =>
  have C:n<d.length:=by rw[a3.out];exact b1
  obtain⟨b,hq,hc⟩:=(HP.out wr B).cells (fun e=>by rw[e]at C;simp at C);subst hq;have c0:=hc n C;have ab:=bu.out wr B d[n] (List.getElem_mem _);have z:=(an.below i).cells.2.2.2.2.2.2
  try dsimp only at z
  have ac:Hid (dataB t d[n]=true->∀j (hj:j<d.length),j<n+1->dataB t d[j]=true):=fun e j hj hjn=>by
   by_cases h:j=n
   ·subst h;exact e
   ·exact H.out j hj (by omega)
  have a7:=al.out n C H.out;have I:Hid (dataB t d[n]=false->U=(6,some n)/\V= []):=a7;clear a7;generalize dataB t d[n]=DB at ab ac I;generalize d[n]=p at c0 ab;have g1:(n:Int)<(A:Int):=by omega
  have g2:(0:Int)<=(n:Int):=by omega
  clear hc C
  go_wp2_with fail
  refine ab.mono ?_;rintro e w3 ⟨rfl,ay⟩;have b2:Hid (BL w2 w3):=trB i ay;have a8:=trB B ay;clear ab ay c0 z;cases DB
  ·obtain⟨Q,R⟩:=I.out rfl;have D:Hid (U=(6,some n)/\V= []):=⟨Q,R⟩;have en:=(J.out w3 a8).1.miss;have bs:BL w3 (w3.alloc (.cells #[.int .i64 n,.iface 325 (.pointer (some (a 5)))] 103)):=alB _ _;clear I ac Q R al am;go_wp2
   go_region
   all_goals go_wp2
   all_goals refine bodyPost_ret (v:=.tuple #[.slice none 0 0,.iface 101 (.pointer (some ⟨w3.heap.size,0,none⟩))]) (by simp[results,Tryz.results16,go_sem]) rfl ?_
   all_goals (rw[D.out.1,D.out.2];exact⟨_,_,rfl,⟨by simp,w3.heap.size,rfl,by simp,by simp[errV]⟩,zj9 _,(trB a8 bs).drew⟩)
  ·have a9:=ac.out rfl;have bt:Hid (∀j (hj:j<d.length),j<n+1->dataB t d[j]=true):=a9;clear a9 ac I;go_wp2;go_roundw
   case rel=>exact ⟨n+1,by omega,by go_num,bt.out,b2.out⟩
   case measure=>simp [intOf];omega
 case neg =>
 have D:Hid (U=(RR.2.1,none)/\V=RR.1):=am.out (fun j hj=>H.out j hj (by have:=a3.out;omega));clear al am H;have g1:¬(n:Int)<(A:Int):=by omega
 have ao:=an.below i;have ba:=za0 i a5;have z:=ao.cells.2.2.2.2.2.2
 try dsimp only at z
 have bb:=bv.out wr B;clear an a5 i a6
 go_wp2_with fail
 refine bb.mono ?_;rintro e w4 ⟨v4,rfl,bn,bo⟩;have bc:=bw.out wr w4 v4 pb B ba bo bn;clear bb bn z
 go_wp2_with fail
 refine bc.mono ?_;rintro e w5 ⟨v5,rfl,ad,az⟩;have O:=ao.below az;have bd:=trB B az;obtain⟨q5,c5,bl⟩:=ad.form;obtain⟨FL,bm⟩:∃k,FF.length=k:=⟨_,rfl⟩;rw[bm]at bl;subst bl;have be:SnAt (w5.setCell ⟨P,6,none⟩ (.slice q5 FL c5)) P (u,m,o,q,r,y,FF) (.slice q5 FL c5):=SnAt.set6 O;have bf:FlsAt (w5.setCell ⟨P,6,none⟩ (.slice q5 FL c5)) (.slice q5 FL c5) FF:=ad.set_off (zn0 O ad) 6 _;have ap:BL X (w5.setCell ⟨P,6,none⟩ (.slice q5 FL c5)):=bd.setCell (p:=⟨P,6,none⟩) (by rw[bz.out];exact Nat.le_refl _) _;have y6:=O.cells.2.2.2.2.2.2;have yf:w5.frozen? ⟨P,6,none⟩=false:=frozen_of_row _ _ _ _ _ O
 try dsimp only at y6
 clear bc ad bo az ao ba O bd B bm
 go_upto_region 13 with fail
 clear y6 yf;generalize w5.setCell ⟨P,6,none⟩ (.slice q5 FL c5)=w6 at *;have bg:=af.out w6 _ ap bf;obtain⟨z0,z1,z2,z3,z4,z5,z⟩:=be.cells;dsimp only at z0 z1 z2 z3 z4 z5 z
 go_wp2_with fail
 refine bg.mono ?_;rintro e w7 ⟨v7,b6,rfl,ae,T,bp⟩;have aq:BL X w7:=trB ap bp;clear bg bp be bf ap z0 z1 z2 z3 z4 z5 z;obtain⟨R1,c7,o7⟩:=RR;dsimp only at *;obtain⟨qx,cx,ax⟩:=ae.form;generalize R1.length=l7 at ax;by_cases h0:c7=0
 case pos =>
  have b3:Hid (RwP X a U V (.returned (.tuple #[v7,.nilIface])) w7):=by
   obtain⟨Q,R⟩:=D.out;rw[Q,R,h0];exact⟨_,_,rfl,rfl,ae,aq⟩
  obtain rfl:=T.ok h0;clear D T ae h0;subst ax;go_wp2;refine bodyPost_ret (v:=.tuple #[.slice qx l7 cx,.nilIface]) (by simp[results,Tryz.results16,go_sem]) rfl ?_;exact b3.out
 case neg =>
  obtain⟨c8,rfl⟩:∃c,c7=c+1:=⟨c7-1,by omega⟩;have ar:=zc5v c8 b6 w7 a (J.out w7 aq).2 (zc5u T);obtain⟨tt,uu,rfl⟩:=T.bad h0;have bh:Hid (∀W,BL X W->RwP X a U V (.returned (.tuple #[.slice none 0 0,errV a (c8+1)])) W):=fun W i=>by
   obtain⟨Q,R⟩:=D.out;rw[Q,R,bx.out (by simp)];exact⟨_,_,rfl,rfl,zj9 W,i⟩
  clear D T ae h0;subst ax;unfold errV at ar bh
  go_wp2_with fail
  refine ar.mono ?_;rintro e w8 ⟨rfl,bq⟩;have b4:=trB aq bq;clear ar bq;go_wp2;refine bodyPost_ret (v:=.tuple #[.slice none 0 0,.iface 325 (.pointer (some (a c8)))]) (by simp[results,Tryz.results16,go_sem]) rfl ?_;exact bh.out w8 b4
end
theorem zc6a (s:Sn) (vf r:Value) (t:List ByteArray) (W:World) (a:Nat->Addr) (h:W.cell? ⟨1,0,none⟩=some (.iface 325 (.pointer (some (a 2))))) (u:FlsAt W vf s.2.2.2.2.2.2) (y:TsAt W r t) :
  Calls Tryz.prog 16 #[.pointer none,snV s vf,r] W fun e w'=> ∃v',e= .returned (.tuple #[v',errV a 3])/\BL W w':=by
 obtain⟨j,k,rfl⟩:=u.form;obtain⟨l,m,rfl⟩:=y.form;unfold snV;obtain⟨n,c,d,f,g,o,z⟩:=s;dsimp only at *;generalize z.length=L at *;generalize t.length=p at *;have b:BL W ((W.alloc (.cells #[.int .i64 n,.int .i64 c,.int .i64 d,.int .i64 f,.int .i64 g,.string o,.slice j L k] 25)).alloc (.cells #[.slice l p m] 39)):=(alB _ _).alloc (by simp) _;have i:=za0 b h;clear u y h
 go_enter Tryz.func16,Tryz.ntmps16
 go_upto_region 1 with fail
 generalize ((W.alloc (.cells #[.int .i64 n,.int .i64 c,.int .i64 d,.int .i64 f,.int .i64 g,.string o,.slice j L k] 25)).alloc (.cells #[.slice l p m] 39))=q at *;have A:=za0 (Below.drew (Below.refl q.heap.size q)) i
 go_upto_region 2 with fail
 go_region
 all_goals go_wp2
 all_goals refine bodyPost_ret (v:=.tuple #[.slice none 0 0,.iface 325 (.pointer (some (a 2)))]) (by simp[results,Tryz.results16,go_sem]) rfl ?_
 all_goals exact⟨_,rfl,b.drew⟩
theorem za9z (n:Int) (w:World):Calls Tryz.prog 61 #[.int .i64 n] w fun e w'=>e= .returned (.agg #[.int .i64 n,.int .i64 (-1)])/\BL w w':=by
 go_enter Tryz.func61,Tryz.ntmps61
 go_wp2;refine bodyPost_ret (v:=.agg #[.int .i64 n,.int .i64 (-1)]) (by simp[results,Tryz.results61,go_sem]) rfl ⟨rfl,?_⟩
 first
  | exact(alB _ _)
  | exact((alB _ _).setCell (Nat.le_refl _) _).setCell (Nat.le_refl _) _
def keptN (fs:List Fl) (ps:List ByteArray) (n:Nat):List Fl:=(fs.take n).filter fun f=> !dropB ps f
theorem zc6b {b:List Fl} {c:List ByteArray} {n:Nat} (h:n<b.length) (e:dropB c b[n]=false):keptN b c (n+1)=keptN b c n++ [b[n]]:=by
 unfold keptN;rw[List.take_succ_eq_append_getElem h,List.filter_append];simp[e]
theorem zc6c {b:List Fl} {c:List ByteArray} {n:Nat} (h:n<b.length) (e:dropB c b[n]=true):keptN b c (n+1)=keptN b c n:=by
 unfold keptN;rw[List.take_succ_eq_append_getElem h,List.filter_append];simp[e]
theorem zc6d (b:List Fl) (c:List ByteArray) (n:Nat):(keptN b c n).length<=b.length:=by
 unfold keptN;have d:=List.length_filter_le (fun f=> !dropB c f) (b.take n);have g:=List.length_take_le' n b;omega
structure RWI (w W:World) (fb:Nat) (s:Sn) (vf:Value) (c d:Int):Prop where
 low:BL w W
 now:SnAt W w.heap.size s vf
 res:FC W (w.heap.size+1) 0 0
 flt:FC W fb c d
theorem RWI.below {w W f:World} {g:Nat} {s:Sn} {vf:Value} {c d:Int} (h:RWI w W g s vf c d) (b:BL W f):RWI w f g s vf c d :=
 ⟨h.low.trans (b.mono h.low.size),h.now.below b,h.res.below b,h.flt.below b⟩
theorem RWI.but {P:Nat->Prop} {w W j:World} {i:Nat} {s:Sn} {vf:Value} {c d:Int} (h:RWI w W i s vf c d) (f:But P W j) (g:∀k,P k->w.heap.size<=k/\∃cur,W.heap[k]? =some (.cells cur 43 (0,0))):RWI w j i s vf c d:=by
 have l:¬P w.heap.size:=fun e=>by obtain⟨_,cur,b⟩:=g _ e;exact zb0 h.now b (by decide) rfl
 have m:¬P (w.heap.size+1):=fun e=>by obtain⟨_,cur,b⟩:=g _ e;exact zb0 h.res b (by decide) rfl
 have n:¬P i:=fun e=>by obtain⟨_,cur,b⟩:=g _ e;exact zb0 h.flt b (by decide) rfl
 exact⟨h.low.trans (f.below h.low.size (fun k hk=>(g k hk).1)),(f.block _ h.now.lt l).trans h.now,(f.block _ h.res.lt m).trans h.res,(f.block _ h.flt.lt n).trans h.flt⟩
theorem zc6e {B:Nat} {W d:World} {v:Value} {b:List Fl} (t:W.ownsRow B 43 6 v b.length (flatF b)) (u:B<=W.heap.size) (f:Fl) (g:d=W.alloc (.cells #[.string f.1,.string f.2.1,.int .i64 f.2.2.1,.int .i64 f.2.2.2.1,.int .i64 f.2.2.2.2.1,.int .i64 f.2.2.2.2.2] 43)) (y:b.length<=1000) :
  ∃v' W2,(Builtin.append_ #[23,23] 23 #[v,.slice (some ⟨W.heap.size,0,none⟩) 1 1]).run Tryz.prog d= .ok v' W2/\W2.ownsRow B 43 6 v' (b++ [f]).length (flatF (b++ [f]))/\But (fun k=>v.ownBlock=some k) W W2:=by
 obtain⟨m,n,o,p,l⟩:=Tryz.fileInfo;have c:BL W d:=by rw[g];exact alB _ _
 have i:Src d (some ⟨W.heap.size,0,none⟩) 1 1 (encF f):=by
  rw[g];exact zi9 W (encF f) 43 1 1
 obtain⟨v',W2,q,r,s,z⟩:=zf1 (P:=Tryz.prog) d B 23 23 43 m (.agg #[.string ⟨#[]⟩,.string ⟨#[]⟩,.int .i64 0,.int .i64 0,.int .i64 0,.int .i64 0]) 6 64 Tryz.underlying23 n o p l rfl (by decide) v b.length (flatF b) (za8 (P:=fun _=>False) t (But.of_below c) (fun _ _ h=>h)) (some ⟨W.heap.size,0,none⟩) 1 1 (encF f) rfl i (zc5 f) (by unfold maxLen;omega) (by omega) (Nat.le_trans u c.size);have j:W2.ownsRow B 43 6 v' (b++ [f]).length (flatF (b++ [f])):=by
  rw[List.length_append,zb7];simpa [flatF] using r
 exact⟨v',W2,q,j,(But.of_below c).trans (But.grown s) (fun _ h _=>h)⟩
theorem zc6f (s:ByteArray) (b o B:Nat) (c:List ByteArray) (w:World) (C:∀j (h:j<c.length),w.cell? ⟨b,o+j,none⟩=some (.string c[j])) (G:c.length<=20000) :
  Calls Tryz.prog 13 #[.string s,.slice (some ⟨b,o,none⟩) c.length B] w fun e w'=>e= .returned (.bool (inT c s))/\w'=w:=by
 have D:Hid (∀j (h:j<c.length),w.cell? ⟨b,o+j,none⟩=some (.string c[j])):=C;obtain⟨L,m⟩:∃L,c.length=L:=⟨_,rfl⟩;have p:Hid (c.length=L):=m;rw[m]at G ⊢;generalize A:inT c s=R;have q:Hid ((c.any fun t=>decide (t=s))=R):=A;clear m C A
 go_enter Tryz.func13,Tryz.ntmps13
 go_wp2
 go_loop [5] (fun k=> ∃n:Nat,n<=L/\k= .int .i64 n/\∀j (h:j<c.length),j<n->c[j]≠s) (fun k=>L-(intOf k).toNat)
 case atStart=>exact ⟨0,by omega,rfl,fun j h h'=>absurd h' (Nat.not_lt_zero _)⟩
 case round =>
  obtain⟨n,I,rfl,l⟩:=hrel;have i:Hid (∀j (h:j<c.length),j<n->c[j]≠s):=l;clear l;by_cases r:n<L
  ·have d:n<c.length:=by rw[p.out];exact r
   have u:=D.out n d;have H:(n:Int)<(L:Int):=by omega
   have E:(0:Int)<=(n:Int):=by omega
   by_cases f:c[n]=s
   ·have g:R=true:=by rw[<-q.out];exact List.any_eq_true.2 ⟨_,List.getElem_mem d,decide_eq_true f⟩
    subst g;rw[f]at u;have v:(s.toList == s.toList)=true:=by simp
    clear f d;go_wp2;go_ret;exact⟨rfl,rfl⟩
   ·have y:Hid (∀j (h:j<c.length),j<n+1->c[j]≠s):=za6h i.out d f;have v:(c[n].toList == s.toList)=false:=neBB (fun e=>f (zc1 e));generalize c[n]=t at u v;clear f d;go_wp2;go_round
    case rel=>exact ⟨n+1,by omega,by go_num,y.out⟩
    case measure=>simp [intOf];omega
  ·obtain rfl:n=L:=by omega
   have g:R=false:=by
    rw[<-q.out];refine List.any_eq_false.2 fun t ht e=>?_;obtain⟨j,z,F⟩:=List.mem_iff_getElem.1 ht;exact i.out j z (by rw[<-p.out];exact z) (F.trans (of_decide_eq_true e))
   subst g;go_wp2;go_ret;exact⟨rfl,rfl⟩
theorem zc6g (s:ByteArray) (p:Option Addr) (c:Nat) (w:World):Calls Tryz.prog 13 #[.string s,.slice p 0 c] w fun e w'=>e= .returned (.bool false)/\w'=w:=by
 go_enter Tryz.func13,Tryz.ntmps13
 go_wp2
 go_loop [5] (fun k=>k= .int .i64 0) (fun _=>0)
 case atStart=>rfl
 case round =>
  obtain rfl:=hrel;go_wp2;go_ret;exact⟨rfl,rfl⟩
theorem zc6h (s:ByteArray) (v:Value) (d:List ByteArray) (w:World) (h:TxsAt w v d) (i:d.length<=20000) :
  Calls Tryz.prog 13 #[.string s,v] w fun e w'=>e= .returned (.bool (inT d s))/\w'=w:=by
 rcases h with⟨p,c,rfl,rfl⟩|⟨b,o,f,rfl,g⟩
 ·exact zc6g s p c w
 ·exact zc6f s b o f d w g i
theorem zc6i (b:List Fl) (p:ByteArray):(findF b p= -1/\hasP b p=false)\/∃n,∃hn:n<b.length,findF b p=n/\b[n].1=p/\hasP b p=true:=by
 cases d:hasP b p with
 | true =>
  obtain⟨f,g,rfl⟩:=zs5.1 d;obtain⟨n,hn,i,k⟩:=za9v g;exact Or.inr ⟨n,hn,i,k,rfl⟩
 | false =>
  refine Or.inl ⟨zq8 fun j hj e=>?_,rfl⟩;have c:=zs5.2 ⟨b[j],List.getElem_mem _,e⟩;rw[d]at c;cases c
theorem zc6j (b:Nat) (B:St) (s:Sn) (vf vp:Value) (c:List ByteArray) (w:World) (Z:MAt w b B) (KS:Keeps B) (hx:FlsAt w vf s.2.2.2.2.2.2) (hl:s.2.2.2.2.2.2.length<=100) (al:Short s.2.2.2.2.2.2) (hp:TxsAt w vp c) (cx:c.length<=1000) :
  Calls Tryz.prog 25 #[.pointer (some ⟨b,0,none⟩),snV s vf,vp] w (RowsP w (rwR B.obs s c,rwE B.obs s c)):=by
 have HX:Hid (∀W,BL w W->FlsAt W vf s.2.2.2.2.2.2):=fun W hb=>hx.below hb;have HP:Hid (∀W,BL w W->TxsAt W vp c):=fun W hb=>hp.below hb;have bk:Hid (∀W,BL w W->MAt W b B):=fun W hb=>Z.below hb;have ar:Hid (∀W,BL w W->Calls Tryz.prog 68 #[snV s vf] W fun e w'=>e= .returned (.agg #[.int .i64 (snapE s).1,.int .i64 (atZ (snapE s).2)])/\BL W w'):=fun W hb=>za6o s vf W (HX.out W hb) (by omega) (fun f O=>⟨by have:=(al f O).1;omega,by have:=(al f O).2;omega⟩);have bl:Hid (∀W p,BL w W->Calls Tryz.prog 12 #[vf,.string p] W fun e w'=>e= .returned (.int .i64 (findF s.2.2.2.2.2.2 p))/\w'=W):=fun W p hb=>zx4 vf s.2.2.2.2.2.2 p W (HX.out W hb) (by omega);have au:Hid (∀W p,BL w W->Calls Tryz.prog 13 #[.string p,vp] W fun e w'=>e= .returned (.bool (inT c p))/\w'=W):=fun W p hb=>zc6h p vp c W (HP.out W hb) (by omega);have ah:Hid (∀W v,MAt W b B->FlsAt W v (s.2.2.2.2.2.2.filter fun f=> !dropB c f)->Calls Tryz.prog 69 #[.pointer (some ⟨b,0,none⟩),snV (snF s (s.2.2.2.2.2.2.filter fun f=> !dropB c f)) v,.int .i64 (-1099511627776),.int .i64 1099511627776] W (RowsP W (rowsS B.obs (snF s (s.2.2.2.2.2.2.filter fun f=> !dropB c f)) minI maxI))):=fun W v hM O=>by
  have h1:=zc1d b B (snF s (s.2.2.2.2.2.2.filter fun f=> !dropB c f)) v (-1099511627776) 1099511627776 W hM KS O (Nat.le_trans (List.length_filter_le _ _) hl) (fun g D=>⟨by have:=(al g (List.mem_filter.1 D).1).1;omega,by have:=(al g (List.mem_filter.1 D).1).2;omega⟩);rw[za8d (by omega) (by omega) (show minI<= -1073741824 by unfold minI;omega) (show (1073741824:Int)<=maxI by unfold maxI;omega)]at h1;exact h1
 have av:Hid ((snapE s).1≠0->rwE B.obs s c=snapE s/\rwR B.obs s c= []):=fun h=>za9w h;have aw:Hid ((snapE s).1=0->∀n (hn:n<c.length),(∀j (hj:j<c.length),j<n->dataB s.2.2.2.2.2.2 c[j]=true)->dataB s.2.2.2.2.2.2 c[n]=false->rwE B.obs s c=(6,some n)/\rwR B.obs s c= []):=fun h n hn h1 h2=>za9x h hn h1 h2;have ax:Hid ((snapE s).1=0->(∀j (hj:j<c.length),dataB s.2.2.2.2.2.2 c[j]=true)->rwE B.obs s c=((rowsS B.obs (snF s (s.2.2.2.2.2.2.filter fun f=> !dropB c f)) minI maxI).2.1,none)/\rwR B.obs s c=(rowsS B.obs (snF s (s.2.2.2.2.2.2.filter fun f=> !dropB c f)) minI maxI).1):=fun h h1=>za9y h h1;have ay:Hid ((snapE s).1=0->∀f∈s.2.2.2.2.2.2,goneP f.1=decide (f.2.1.data.toList= [45])):=fun h f O=>zs0 ((zr3 h).2.1 f O).1;have az:Hid (∀n,n=s.2.2.2.2.2.2.length->keptN s.2.2.2.2.2.2 c n=(s.2.2.2.2.2.2.filter fun f=> !dropB c f)):=fun n e=>by unfold keptN;rw[e,List.take_length]
 have a0:Hid (∀n,(keptN s.2.2.2.2.2.2 c n).length<=100):=fun n=>Nat.le_trans (zc6d _ _ n) hl;generalize rwE B.obs s c=QE at *;generalize rwR B.obs s c=QR at *;generalize rowsS B.obs (snF s (s.2.2.2.2.2.2.filter fun f=> !dropB c f)) minI maxI=RR at *;generalize (s.2.2.2.2.2.2.filter fun f=> !dropB c f)=FF at *;generalize cv:snapE s=A at *;obtain⟨J,G,ca⟩:=hx.form;obtain⟨qp,cp,cb⟩:=hp.form;obtain⟨L,hL⟩:∃L,s.2.2.2.2.2.2.length=L:=⟨_,rfl⟩;obtain⟨PL,bd⟩:∃k,c.length=k:=⟨_,rfl⟩;have HL:Hid (s.2.2.2.2.2.2.length=L):=hL;have bm:Hid (c.length=PL):=bd;have c6:L<=100:=by omega
 have cy:PL<=1000:=by omega
 rw[hL]at ca;rw[bd]at cb;subst ca cb;have hS:SnAt (w.alloc (.cells #[.int .i64 s.1,.int .i64 s.2.1,.int .i64 s.2.2.1,.int .i64 s.2.2.2.1,.int .i64 s.2.2.2.2.1,.string s.2.2.2.2.2.1,.slice J L G] 25)) w.heap.size s (.slice J L G):=SnAt.new w s _;clear hx hp Z KS hl al cx hL bd cv;unfold snV at ar ah ⊢;unfold snF at ah;obtain⟨K,t,u,y,z,M,d⟩:=s;dsimp only at *;have bn:BL w (w.alloc (.cells #[.int .i64 K,.int .i64 t,.int .i64 u,.int .i64 y,.int .i64 z,.string M,.slice J L G] 25)):=alB _ _;have a1:Below (w.alloc (.cells #[.int .i64 K,.int .i64 t,.int .i64 u,.int .i64 y,.int .i64 z,.string M,.slice J L G] 25)).heap.size (w.alloc (.cells #[.int .i64 K,.int .i64 t,.int .i64 u,.int .i64 y,.int .i64 z,.string M,.slice J L G] 25)) ((w.alloc (.cells #[.int .i64 K,.int .i64 t,.int .i64 u,.int .i64 y,.int .i64 z,.string M,.slice J L G] 25)).alloc (.cells #[.int .i64 0,.int .i64 0] 53)):=alB _ _;have a2:FC ((w.alloc (.cells #[.int .i64 K,.int .i64 t,.int .i64 u,.int .i64 y,.int .i64 z,.string M,.slice J L G] 25)).alloc (.cells #[.int .i64 0,.int .i64 0] 53)) (w.heap.size+1) 0 0:=by
  have h:=FC.new (w.alloc (.cells #[.int .i64 K,.int .i64 t,.int .i64 u,.int .i64 y,.int .i64 z,.string M,.slice J L G] 25));have e:(w.alloc (.cells #[.int .i64 K,.int .i64 t,.int .i64 u,.int .i64 y,.int .i64 z,.string M,.slice J L G] 25)).heap.size=w.heap.size+1:=by simp
  rw[e]at h;exact h
 have a3:=hS.below a1;have a4:BL w ((w.alloc (.cells #[.int .i64 K,.int .i64 t,.int .i64 u,.int .i64 y,.int .i64 z,.string M,.slice J L G] 25)).alloc (.cells #[.int .i64 0,.int .i64 0] 53)):=trB bn a1;have ci:w.heap.size<=w.heap.size:=Nat.le_refl _;have q:w.heap.size<=w.heap.size+1:=Nat.le_succ _;clear bn a1 hS
 go_enter Tryz.func25,Tryz.ntmps25
 go_upto_region 1 with fail
 generalize (w.alloc (.cells #[.int .i64 K,.int .i64 t,.int .i64 u,.int .i64 y,.int .i64 z,.string M,.slice J L G] 25)).alloc (.cells #[.int .i64 0,.int .i64 0] 53)=W2 at *;obtain⟨x0,x1,x2,x3,x4,x5,x6⟩:=a3.cells;dsimp only at x0 x1 x2 x3 x4 x5
 go_wp2_with fail
 refine(ar.out W2 a4).mono ?_;rintro e w4 ⟨rfl,bh⟩;clear x0 x1 x2 x3 x4 x5 x6 ar;have a5:BL w4 (w4.alloc (.cells #[.int .i64 A.1,.int .i64 (atZ A.2)] 53)):=alB _ _;have am:BL W2 (w4.alloc (.cells #[.int .i64 A.1,.int .i64 (atZ A.2)] 53)):=trB bh a5;have a6:FC (w4.alloc (.cells #[.int .i64 A.1,.int .i64 (atZ A.2)] 53)) w4.heap.size A.1 (atZ A.2):=heap_alloc_new _ _;have o:RWI w (w4.alloc (.cells #[.int .i64 A.1,.int .i64 (atZ A.2)] 53)) w4.heap.size (K,t,u,y,z,M,d) (.slice J L G) A.1 (atZ A.2):=⟨(trB a4 am),a3.below am,a2.below am,a6⟩;have a7:Hid (w.heap.size+1<w4.heap.size):=(a2.below bh).lt;clear bh a5 am a6 a3 a2 a4
 go_upto_region 2 with fail
 generalize w4.alloc (.cells #[.int .i64 A.1,.int .i64 (atZ A.2)] 53)=W5 at *;generalize w4.heap.size=H at *;by_cases hE:A.1=0
 case neg =>
  obtain⟨e1,e2⟩:=av.out hE;have C:Hid (QE=A/\QR= []):=⟨e1,e2⟩;have cz:(0:Int)<(A.1:Int):=by omega
  have bo:BL W5 W5.drew:=(Below.refl _ _).drew;have Q:=o.below bo;have bp:=o.low;have co:=Q.low;have j0:=o.res.c0;have j1:=o.res.c1;have jz:=o.res.fz;have m0:=Q.res.c0;have m1:=Q.res.c1;have mz:=Q.res.fz;have n0:=o.flt.c0;have n1:=o.flt.c1;have q0:=Q.flt.c0;have q1:=Q.flt.c1;clear bo o Q hE e1 e2 av aw ax ay
  go_wp2_with fail
  go_region
  all_goals go_wp2
  all_goals refine bodyPost_ret (v:=.tuple #[.slice none 0 0,.agg #[.int .i64 A.1,.int .i64 (atZ A.2)]]) (by simp[results,Tryz.results25,go_sem,j0,j1]) rfl ?_
  all_goals refine⟨_,by rw[C.out.1],by rw[C.out.2];exact zj9 _,?_⟩
  all_goals first
   | exact(bp.setCell q _).setCell q _
   | exact(co.setCell q _).setCell q _
   | exact((bp.setCell q _).setCell q _).drew
 case pos =>
 have a8:Hid (∀n (hn:n<c.length),(∀j (hj:j<c.length),j<n->dataB d c[j]=true)->dataB d c[n]=false->QE=(6,some n)/\QR= []):=aw.out hE;have a9:Hid ((∀j (hj:j<c.length),dataB d c[j]=true)->QE=(RR.2.1,none)/\QR=RR.1):=ax.out hE;have HG:Hid (∀f∈d,goneP f.1=decide (f.2.1.data.toList= [45])):=ay.out hE;rw[hE]at o;have n0:=o.flt.c0;rw[show ((0:Nat):Int)=0 from rfl]at n0 o;generalize atZ A.2=dz at *;clear av aw ax ay hE
 go_wp2_with fail
 clear n0
 go_loopw [9,10,11] (fun k _ _ wr=> ∃n:Nat,n<=PL/\k= .int .i64 n/\(∀j (hj:j<c.length),j<n->dataB d c[j]=true)/\RWI w wr H (K,t,u,y,z,M,d) (.slice J L G) 0 dz) (fun k _ _ _=>PL-(intOf k).toNat)
 case atStart=>exact ⟨0,by omega,rfl,fun j _ h=>absurd h (Nat.not_lt_zero _),o⟩
 case round =>
 clear o;obtain⟨n,hn,rfl,be,o⟩:=hrel;have R:Hid (∀j (hj:j<c.length),j<n->dataB d c[j]=true):=be;clear be;have F:=o.low;by_cases cq:n<PL
 case pos =>
  have S:n<c.length:=by rw[bm.out];exact cq
  obtain⟨pb,po,hq,hc⟩:=(HP.out wr F).at (fun e=>by rw[e]at S;simp at S);subst hq;have cn:=hc n S;have x6:=o.now.cells.2.2.2.2.2.2;have bq:=fun W hb=>bl.out W c[n] hb;have br:=zc6i d c[n];have ai:Hid (dataB d c[n]=true->∀j (hj:j<c.length),j<n+1->dataB d c[j]=true):=fun e j hj hjn=>by
   by_cases h:j=n
   ·subst h;exact e
   ·exact R.out j hj (by omega)
  have bs:=a8.out n S R.out;have N:Hid (dataB d c[n]=false->QE=(6,some n)/\QR= []):=bs;have P:Hid (dataB d c[n]=(hasP d c[n] && !goneP c[n])):=rfl;have T:Hid ((findF d c[n]= -1/\hasP d c[n]=false)\/∃m,∃Z:m<d.length,findF d c[n]=m/\d[m].1=c[n]/\hasP d c[n]=true):=br;clear bs br;generalize dataB d c[n]=DB at ai N P;generalize hasP d c[n]=da at P T;generalize c[n]=p at *;have hi:(n:Int)<(PL:Int):=by omega
  have c8:(0:Int)<=(n:Int):=by omega
  clear hc S a8 a9 ah au az a0 R
  try dsimp only at x6
  go_upto_region 7 with fail
  go_quiet (first | (go_at_call 12;exact Calls.quiet_of_same (bq _ (F.trans ((za4 (Below.refl wr.heap.size wr) _).mono F.size)))))
  have aa:=o.below (za4 (Below.refl wr.heap.size wr) nq);clear o F x6 cn bq;generalize wr.drewN nq=WD at *;have F:=aa.low;have x6:=aa.now.cells.2.2.2.2.2.2;have j0:=aa.res.c0;have j1:=aa.res.c1;have jz:=aa.res.fz
  try dsimp only at x6
  rcases T.out with⟨O,hh⟩|⟨m,Z,O,bj,hh⟩
  ·have I:Hid (DB=false):=by show _=_;rw[P.out,hh];rfl
   obtain⟨e1,e2⟩:=N.out I.out;have C:Hid (QE=(6,some n)/\QR= []):=⟨e1,e2⟩;rw[O];clear O hh ai N P T e1 e2;go_wp2;refine bodyPost_ret (v:=.tuple #[.slice none 0 0,.agg #[.int .i64 6,.int .i64 n]]) (by simp[results,Tryz.results25,go_sem,j0,j1]) rfl ?_;exact⟨_,by rw[C.out.1];rfl,by rw[C.out.2];exact zj9 _,(F.setCell q _).setCell q _⟩
  ·have r:=HG.out d[m] (List.getElem_mem _);obtain⟨cc,fo,bf,ag⟩:=(HX.out WD F).cells (fun e=>by rw[e]at Z;simp at Z);have c1:=(ag m Z).2.1;rw[bj]at r;have c9:m<L:=by rw[<-HL.out];exact Z
   have cr:(m:Int)<(L:Int):=by omega
   have cs:(0:Int)<=(m:Int):=by omega
   generalize d[m]=f at *;obtain⟨f0,f1,f2,f3,f4,f5⟩:=f;dsimp only at *;rw[O];subst bf;by_cases D:f1.data.toList= [45]
   ·rw[decide_eq_true D]at r;have d1:(f1.toList == [45])=true:=za6 D;have I:Hid (DB=false):=by show _=_;rw[P.out,r,hh];rfl
    obtain⟨e1,e2⟩:=N.out I.out;have C:Hid (QE=(6,some n)/\QR= []):=⟨e1,e2⟩;clear O hh ai N P T e1 e2 r D ag Z bj;go_wp2;refine bodyPost_ret (v:=.tuple #[.slice none 0 0,.agg #[.int .i64 6,.int .i64 n]]) (by simp[results,Tryz.results25,go_sem,j0,j1]) rfl ?_;exact⟨_,by rw[C.out.1];rfl,by rw[C.out.2];exact zj9 _,(F.setCell q _).setCell q _⟩
   ·rw[decide_eq_false D]at r;have d1:(f1.toList == [45])=false:=za7 D;have bt:=ai.out (by rw[P.out,r,hh];rfl);have cj:Hid (∀j (hj:j<c.length),j<n+1->dataB d c[j]=true):=bt;clear O hh ai N P T r D ag Z bj bt j0 j1 jz;go_wp2;go_roundw
    case rel=>exact ⟨n+1,by omega,by go_num,cj.out,aa⟩
    case measure=>simp [intOf];omega
 case neg =>
 have C:Hid (QE=(RR.2.1,none)/\QR=RR.1):=a9.out (fun j hj=>R.out j hj (by have:=bm.out;omega));have g1:¬(n:Int)<(PL:Int):=by omega
 clear a8 a9 R bl
 go_wp2_with fail
 go_loopw [12,13,14] (fun l i _ wr=> ∃m:Nat,m<=L/\i= .int .i64 m/\wr.ownsRow w.heap.size 43 6 l (keptN d c m).length (flatF (keptN d c m))/\RWI w wr H (K,t,u,y,z,M,d) (.slice J L G) 0 dz) (fun _ i _ _=>L-(intOf i).toNat)
 case atStart=>exact ⟨0,by omega,rfl,World.ownsRow_nil _ _ _ _,o⟩
 case round =>
 clear o F;obtain⟨m,Z,rfl,ho,o⟩:=hrel;have HO:Hid (wr.ownsRow w.heap.size 43 6 u12 (keptN d c m).length (flatF (keptN d c m))):=ho;clear ho;have F:=o.low;have x6:=o.now.cells.2.2.2.2.2.2
 try dsimp only at x6
 by_cases ck:m<L
 case pos =>
  have ab:m<d.length:=by rw[HL.out];exact ck
  obtain⟨cc,fo,bf,ag⟩:=(HX.out wr F).cells (fun e=>by rw[e]at ab;simp at ab);subst bf;obtain⟨c0,c1,c2,c3,c4,V⟩:=ag m ab;have ac:=au.out wr d[m].1 F;have r:=HG.out d[m] (List.getElem_mem _);have an:Hid (dropB c d[m]=false->keptN d c (m+1)=keptN d c m++ [d[m]]):=fun e=>zc6b ab e;have ao:Hid (dropB c d[m]=true->keptN d c (m+1)=keptN d c m):=fun e=>zc6c ab e;have ad:Hid (dropB c d[m]=(!goneP d[m].1 && !inT c d[m].1)):=rfl;have cr:(m:Int)<(L:Int):=by omega
  have cs:(0:Int)<=(m:Int):=by omega
  generalize d[m]=f at *;generalize dropB c f=DB at *;clear ag ab;have U:Hid (DB=false->∃v' X,(Builtin.append_ #[23,23] 23 #[u12,.slice (some ⟨wr.heap.size,0,none⟩) 1 1]).run Tryz.prog (wr.alloc (.cells #[.string f.1,.string f.2.1,.int .i64 f.2.2.1,.int .i64 f.2.2.2.1,.int .i64 f.2.2.2.2.1,.int .i64 f.2.2.2.2.2] 43))= .ok v' X/\X.ownsRow w.heap.size 43 6 v' (keptN d c (m+1)).length (flatF (keptN d c (m+1)))/\RWI w X H (K,t,u,y,z,M,d) (.slice (some ⟨cc,fo,none⟩) L G) 0 dz):=fun e=>by
   obtain⟨v',X,hr,Y,cm⟩:=zc6e HO.out F.size f rfl (by have:=a0.out m;omega);rw[an.out e];refine⟨v',X,hr,Y,o.but cm (fun k hk=>?_)⟩;obtain⟨h1,_,h2⟩:=za5 HO.out hk;exact⟨h1,h2⟩
  obtain⟨f0,f1,f2,f3,f4,f5⟩:=f;dsimp only at *;generalize inT c f0=IT at *;by_cases D:f1.data.toList= [45]
  case pos =>
   rw[decide_eq_true D]at r;have d1:(f1.toList == [45])=true:=za6 D;have I:DB=false:=by rw[ad.out,r];rfl
   obtain⟨v',X,hr,Y,bg⟩:=U.out I;have ba:Hid (X.ownsRow w.heap.size 43 6 v' (keptN d c (m+1)).length (flatF (keptN d c (m+1)))):=Y;clear I D r ad an ao Y U;have cl:BL wr (wr.alloc (.cells #[.string f0,.string f1,.int .i64 f2,.int .i64 f3,.int .i64 f4,.int .i64 f5] 43)):=alB _ _
   go_wp2_with fail
   refine ac.mono ?_;rintro e wq ⟨rfl,E⟩;replace E:=E.symm;subst E;clear ac;cases IT
   all_goals go_wp2_with (at_builtin;refine zd2 (by rfl) _ _ _ (by rfl) _ _ _ (by rfl) (by rfl) hr ?_)
   all_goals go_roundw
   all_goals first
    | exact⟨m+1,by omega,by go_num,ba.out,bg⟩
    | (simp[intOf];omega)
  case neg =>
   rw[decide_eq_false D]at r;have d1:(f1.toList == [45])=false:=za7 D;cases IT
   case true =>
    have I:DB=false:=by rw[ad.out,r];rfl
    obtain⟨v',X,hr,Y,bg⟩:=U.out I;have ba:Hid (X.ownsRow w.heap.size 43 6 v' (keptN d c (m+1)).length (flatF (keptN d c (m+1)))):=Y;clear I D r ad an ao Y U;have cl:BL wr (wr.alloc (.cells #[.string f0,.string f1,.int .i64 f2,.int .i64 f3,.int .i64 f4,.int .i64 f5] 43)):=alB _ _
    go_wp2_with fail
    refine ac.mono ?_;rintro e wq ⟨rfl,E⟩;replace E:=E.symm;subst E;clear ac
    go_wp2_with (at_builtin;refine zd2 (by rfl) _ _ _ (by rfl) _ _ _ (by rfl) (by rfl) hr ?_)
    go_roundw
    case rel=>exact ⟨m+1,by omega,by go_num,ba.out,bg⟩
    case measure=>simp [intOf];omega
   case false =>
    have HS:Hid (keptN d c (m+1)=keptN d c m):=ao.out (by rw[ad.out,r];rfl);clear D r ad an ao U
    go_wp2_with fail
    refine ac.mono ?_;rintro e wq ⟨rfl,E⟩;replace E:=E.symm;subst E;clear ac;go_wp2;go_roundw
    case rel=>exact ⟨m+1,by omega,by go_num,by rw[HS.out];exact HO.out,o⟩
    case measure=>simp [intOf];omega
 case neg =>
 have g2:¬(m:Int)<(L:Int):=by omega
 have bu:=az.out m (by rw[HL.out];omega);have aj:=(zd3 HO.out).1;rw[bu]at aj;obtain⟨q5,V,cd⟩:=aj.form;obtain⟨FL,ce⟩:∃k,FF.length=k:=⟨_,rfl⟩;rw[ce]at cd;subst cd;have bv:SnAt (wr.setCell ⟨w.heap.size,6,none⟩ (.slice q5 FL V)) w.heap.size (K,t,u,y,z,M,FF) (.slice q5 FL V):=SnAt.set6 o.now;have bw:FlsAt (wr.setCell ⟨w.heap.size,6,none⟩ (.slice q5 FL V)) (.slice q5 FL V) FF:=aj.set_off (zn0 o.now aj) 6 _;have bx:MAt (wr.setCell ⟨w.heap.size,6,none⟩ (.slice q5 FL V)) b B:=za8n (bk.out wr F) o.now _;have bz:BL w (wr.setCell ⟨w.heap.size,6,none⟩ (.slice q5 FL V)):=F.setCell (p:=⟨w.heap.size,6,none⟩) ci _;have ae:But (fun k=>k=w.heap.size) wr (wr.setCell ⟨w.heap.size,6,none⟩ (.slice q5 FL V)):=(But.refl (fun k=>k=w.heap.size) wr).setCell (Or.inl (Eq.refl _)) _;have b0:FC (wr.setCell ⟨w.heap.size,6,none⟩ (.slice q5 FL V)) (w.heap.size+1) 0 0:=(ae.block _ o.res.lt (by omega)).trans o.res;have b1:FC (wr.setCell ⟨w.heap.size,6,none⟩ (.slice q5 FL V)) H 0 dz:=(ae.block _ o.flt.lt (by have:=a7.out;omega)).trans o.flt;have yf:wr.frozen? ⟨w.heap.size,6,none⟩=false:=frozen_of_row _ _ _ _ _ o.now;clear bu aj ce ae HO o F az a0 bk au
 go_upto_region 21 with fail
 clear x6 yf;generalize wr.setCell ⟨w.heap.size,6,none⟩ (.slice q5 FL V)=X at *;obtain⟨z0,z1,z2,z3,z4,z5,z6⟩:=bv.cells;dsimp only at z0 z1 z2 z3 z4 z5 z6;have b2:=ah.out X _ bx bw;clear ah bx bw bv
 go_wp2_with fail
 refine b2.mono ?_;rintro e w7 ⟨v7,rfl,bi,ap⟩;clear b2 z0 z1 z2 z3 z4 z5 z6;obtain⟨R1,c7,o7⟩:=RR;dsimp only at *;have af:=b1.below ap;have bb:=b0.below ap;have b3:BL w w7:=trB bz ap;have k0:=af.c0;have k1:=af.c1;have kz:=af.fz;have b4:=af.set (c7:Int) (atZ o7);have b5:=af.off_rows bi 0 (.int .i64 (c7:Int)) 1 (.int .i64 (atZ o7));have bc:w.heap.size<=H:=by have:=a7.out;omega
 have b6:BL w ((w7.setCell ⟨H,0,none⟩ (.int .i64 (c7:Int))).setCell ⟨H,1,none⟩ (.int .i64 (atZ o7))):=(b3.setCell bc _).setCell bc _;have ae:But (fun k=>k=H) w7 ((w7.setCell ⟨H,0,none⟩ (.int .i64 (c7:Int))).setCell ⟨H,1,none⟩ (.int .i64 (atZ o7))):=((But.refl (fun k=>k=H) w7).setCell (Or.inl (Eq.refl _)) _).setCell (Or.inl (Eq.refl _)) _;have b7:FC ((w7.setCell ⟨H,0,none⟩ (.int .i64 (c7:Int))).setCell ⟨H,1,none⟩ (.int .i64 (atZ o7))) (w.heap.size+1) 0 0:=(ae.block _ bb.lt (by have:=a7.out;omega)).trans bb;obtain⟨q7,cg,ch⟩:=bi.form;clear b1 b0 bz ap af bb b3 bi ae;generalize cw:R1.length=l7 at ch;clear cw;subst ch
 go_upto_region 22 with fail
 clear k0 k1 kz;generalize (w7.setCell ⟨H,0,none⟩ (.int .i64 (c7:Int))).setCell ⟨H,1,none⟩ (.int .i64 (atZ o7))=W8 at *;have k0:=b4.c0;have b8:=za9z (c7:Int) W8;clear b4
 go_wp2_with fail
 refine b8.mono ?_;rintro e w9 ⟨rfl,aq⟩;clear b8 k0;have ak:=b7.below aq;have b9:=ak.off_rows (b5.below aq) 0 (.int .i64 (c7:Int)) 1 (.int .i64 (-1));have ct:BL w w9:=trB b6 aq;have j0:=ak.c0;have j1:=ak.c1;have jz:=ak.fz;have cu:Hid (RowsAt ((w9.setCell ⟨w.heap.size+1,0,none⟩ (.int .i64 (c7:Int))).setCell ⟨w.heap.size+1,1,none⟩ (.int .i64 (-1))) (.slice q7 l7 cg) R1):=b9;clear b7 b5 ak b9 b6 aq;go_wp2;refine bodyPost_ret (v:=.tuple #[.slice q7 l7 cg,.agg #[.int .i64 c7,.int .i64 (-1)]]) (by simp[results,Tryz.results25,go_sem,j0,j1]) rfl ?_;exact⟨_,by rw[C.out.1];rfl,by rw[C.out.2];exact cu.out,(ct.setCell q _).setCell q _⟩
theorem zc6k {α:Type} {R:α->α->Prop} :∀ {l:List α},l.length<=1->l.Pairwise R
 | [],_=>List.Pairwise.nil
 | [x],_=>List.pairwise_singleton _ _
 | _ :: _ :: _,h=>by simp at h
theorem zc6l (v:Value) (c:List Fl) (least:Int) (w:World) (a:Nat->Addr) (h:EnvL w a) (B:FlsAt w v c) (hl:c.length<=100) (ah:Short c) (hE:(listE c).1=0) (ba:0<=least) (bb:least<=41) :
  Calls Tryz.prog 10 #[v,.int .i64 least] w fun e w'=> ∃v',e= .returned (.tuple #[v',.nilIface])/\TssAt w' v' (planD c least)/\BL w w':=by
 have Z:Hid (∀d i:List Gx,d.Pairwise (fun x y=>x.1≠y.1)->d.map (·.2.2)=plN c least c.length->i.Perm d->(i.map (·.1)).Pairwise (ltO d)->sevG (i.map (·.2.2))=planD c least):=fun d i V h2 h3 h4=>zc5c (fun f hf=>((ze9.1 hE).2.1 f hf).1) V h2 h3 h4;generalize planD c least=PD at Z ⊢;have aa:=zn1 v c w a h B hl ah;have ax:Hid (∀W,BL w W->EnvN W a):=fun W t=>h.file.env.below t;have HX:Hid (∀W,BL w W->FlsAt W v c):=fun W t=>B.below t;have ai:Hid (∀f∈c,0<=f.2.2.1/\f.2.2.1<=40):=fun f hf=>zn4 ((ze9.1 hE).2.1 f hf).1;have aj:Hid (∀f∈c,∀W,BL w W->Calls Tryz.prog 39 #[flV f] W fun e w'=>e= .returned (.bool (goneP f.1))/\BL W w'):=fun f hf W t=>zh9 f W a (ax.out W t) (by have:=(ah f hf).1;omega);obtain⟨q,a9,rfl⟩:=B.form;obtain⟨L,hL⟩:∃L,c.length=L:=⟨_,rfl⟩;have HL:Hid (c.length=L):=hL;have I:Hid (∀n,n<=L->GsOk n (plN c least n)):=fun n hn=>za1g ai.out n (by omega);have a5:L<=100:=by omega
 rw[hL]at aa HX ⊢;clear B hl hL ah h
 go_enter Tryz.func10,Tryz.ntmps10
 go_wp2_with fail
 refine aa.mono ?_;rintro e w1 ⟨ev,rfl,ht,ag⟩;obtain rfl:=ht.ok hE;clear aa ht hE
 go_wp2_with fail
 go_loopw [7,24] (fun u k wr=> ∃(n:Nat) (d:List Gx),n<=L/\k= .int .i64 n/\GrsIn w.heap.size wr u d/\d.map (·.2.2)=plN c least n/\BL w wr) (fun _ k _=>L-(intOf k).toNat)
 case atStart=>exact ⟨0, [],by omega,rfl,GrsIn.nil _ _,rfl,ag⟩
 case round =>
 clear ag;obtain⟨n,d,hn,rfl,hG,hm,t⟩:=hrel;have s:Hid (d.map (·.2.2)=plN c least n):=hm;have G:Hid (GrsIn w.heap.size wr u7 d):=hG;clear hm hG;by_cases ay:n<L
 case neg =>
  obtain rfl:n=L:=by omega
  have a6:¬(n:Int)<(n:Int):=by omega
  have ak:d.length<=100:=by
   have e:=congrArg List.length s.out;rw[List.length_map]at e;have:=(I.out n (Nat.le_refl _)).1;omega
  obtain⟨q7,c7,a1⟩:=zb4 G.out.row;subst a1;by_cases C:d.length<=1
  ·have z:=za1e w.heap.size _ d wr G.out (by omega);rw[s.out]at z;have D:=fun cv=>za9d q7 d.length c7 cv C wr;have az:Hid (sevG (plN c least n)=PD):=by
    have V:=Z.out d d G.out.dist (by rw[HL.out];exact s.out) (List.Perm.refl d) (zc6k (by rw[List.length_map];exact C));rw[s.out]at V;exact V
   generalize d.length=Q at *;clear G s ak I C
   go_upto_region 13 with fail
   go_wp2_with fail
   refine(D _).mono ?_;rintro e w2 ⟨rfl,rfl⟩;clear D
   go_wp2_with fail
   refine z.mono ?_;rintro e H ⟨v3,rfl,O,r⟩;clear z;have ab:Hid (TssAt H v3 (sevG (plN c least n))):=O;have l:BL w H:=trB t r;clear O;go_wp2;refine bodyPost_ret (v:=.tuple #[v3,.nilIface]) (by simp[results,Tryz.results10,go_sem]) rfl ?_;exact⟨_,rfl,by rw[<-az.out];exact ab.out,l⟩
  ·obtain⟨Y,a2,_⟩:=G.out.at_ (fun e=>by rw[e]at C;simp at C);subst a2;obtain⟨Q,A⟩:∃k,d.length=k:=⟨_,rfl⟩;have a0:Hid (d.length=Q/\Q<=100):=⟨A,by omega⟩;have p:=G.out;rw[A]at p ⊢;have K:StK Y Q (klO d) (ltO d) (d.map (·.1)) wr:=⟨zc4n d,zc4q p,zc4o p.dist,by rw[List.length_map];exact A,by omega⟩;have D:=zc4c K (zc4p p A);have al:Hid (∀W',SortP w.heap.size Y Q c7 [] (d.map (·.1)) [] (ltO d) wr W'->∃i,GrsIn w.heap.size W' (.slice (some ⟨Y,0,none⟩) Q c7) i/\(sevG (i.map (·.2.2))=PD/\i.length=Q)/\But (fun k=>k=Y) wr W'/\w.heap.size<=Y):=fun W' hp=>by
    obtain⟨i,V,h2,h5⟩:=zc4r p A hp;obtain⟨M,_,_,_,h4⟩:=hp;exact⟨i,V,⟨Z.out d i p.dist (by rw[HL.out];exact s.out) h2 h5,by rw[h2.length_eq];exact A⟩,h4,(za5 p.row (k:=Y) rfl).1⟩
   unfold cvP at D;clear K p G ak I C A
   go_upto_region 13 with fail
   go_wp2_with fail
   refine D.mono ?_;rintro e w2 ⟨rfl,ar⟩;clear D;obtain⟨i,ap,af,aq,a3⟩:=al.out w2 ar;have J:BL w w2:=t.trans (aq.below t.size (fun k hk=>by rw[hk];exact a3));have z:=za1e w.heap.size _ i w2 ap (by have:=a0.out;rw[af.2];omega);rw[af.1]at z;clear ap af aq ar al s
   go_wp2_with fail
   refine z.mono ?_;rintro e H ⟨v3,rfl,O,r⟩;clear z;have ab:Hid (TssAt H v3 PD):=O;have l:BL w H:=trB J r;clear O;go_wp2;refine bodyPost_ret (v:=.tuple #[v3,.nilIface]) (by simp[results,Tryz.results10,go_sem]) rfl ?_;exact⟨_,rfl,ab.out,l⟩
 case pos =>
  have j:n<c.length:=by rw[HL.out];exact ay
  obtain⟨b,o,hq,hc⟩:=(HX.out wr t).cells (fun e=>by rw[e]at j;simp at j);subst hq;obtain⟨c0,c1,c2,c3,c4,c5⟩:=hc n j;have a7:(n:Int)<(L:Int):=by omega
  have a8:(0:Int)<=(n:Int):=by omega
  have N:Hid (fewB least c[n]=true->plN c least (n+1)=putG c[n] (plN c least n)):=fun e=>zn3 j e;have E:Hid (fewB least c[n]=false->plN c least (n+1)=plN c least n):=fun e=>za1f j e;have am:=ai.out c[n] (List.getElem_mem _);have ac:=aj.out c[n] (List.getElem_mem _);have R:=I.out n (by omega);have S:Hid (GrOk d/\d.length<=900/\∀x∈d,x.2.2.2.2.length<=900):=by
   have e:=s.out;have el:d.length=(plN c least n).length:=by rw[<-e,List.length_map]
   have em:∀x∈d,x.2.2∈plN c least n:=fun x B=>by rw[<-e];exact List.mem_map.2 ⟨x,B,rfl⟩
   exact⟨fun x B=>by have:=(R.2 _ (em x B)).1;omega,by have:=R.1;omega,fun x B=>by have:=(R.2 _ (em x B)).2;omega⟩
  generalize c[n]=g at c0 c1 c2 c3 c4 c5 N E ac am;have ad:BL wr (wr.alloc (.cells #[.string g.1,.string g.2.1,.int .i64 g.2.2.1,.int .i64 g.2.2.2.1,.int .i64 g.2.2.2.2.1,.int .i64 g.2.2.2.2.2] 43)):=alB _ _;have ae:=FlAt.new wr g;have J:BL w (wr.alloc (.cells #[.string g.1,.string g.2.1,.int .i64 g.2.2.1,.int .i64 g.2.2.2.1,.int .i64 g.2.2.2.2.1,.int .i64 g.2.2.2.2.2] 43)):=trB t ad;have an:Hid (GrsIn w.heap.size (wr.alloc (.cells #[.string g.1,.string g.2.1,.int .i64 g.2.2.1,.int .i64 g.2.2.2.1,.int .i64 g.2.2.2.2.1,.int .i64 g.2.2.2.2.2] 43)) u7 d):=G.out.below ad;clear hc j G ad t R I
  go_upto_region 10 with fail
  clear c0 c1 c2 c3 c4 c5;generalize wr.alloc (.cells #[.string g.1,.string g.2.1,.int .i64 g.2.2.1,.int .i64 g.2.2.2.1,.int .i64 g.2.2.2.2.1,.int .i64 g.2.2.2.2.2] 43)=W2 at *;generalize wr.heap.size=gb at *;obtain⟨d0,d1,d2,d3,d4,d5,-⟩:=ae.cells;have P:=ac W2 J;unfold flV at P;clear ac aj
  go_wp2_with fail
  refine P.mono ?_;rintro e H ⟨rfl,r⟩;clear P d0 d1 d2 d3 d4 d5;have l:BL w H:=trB J r;have T:Hid (GrsIn w.heap.size H u7 d):=an.out.below r;obtain⟨d0,d1,d2,d3,d4,d5,-⟩:=(ae.below r).cells;clear an r J ae;cases F:goneP g.1
  case true =>
   have X:Hid (plN c least (n+1)=plN c least n):=E.out (by unfold fewB;rw[F];rfl);clear F N E;go_wp2;go_roundw
   case rel=>exact ⟨n+1,d,by omega,by go_num,T.out,by rw[X.out];exact s.out,l⟩
   case measure=>simp [intOf];omega
  case false =>
   by_cases ao:g.2.2.1<least
   ·have X:Hid (plN c least (n+1)=putG g (plN c least n)):=N.out (by unfold fewB;rw[F,decide_eq_true ao];rfl);have U:=za9c w.heap.size g u7 d H T.out l.size S.out.1 ⟨am.1,by omega⟩ S.out.2.1 S.out.2.2;rw[s.out,<-X.out]at U;unfold flV at U;clear F N E S T
    go_wp2_with fail
    refine U.mono ?_;rintro e w4 ⟨v4,a4,rfl,au,av,aw⟩;have HR:Hid (∃(m:Nat) (i:List Gx),m<=L/\Value.int .i64 ((n:Int)+1)= .int .i64 m/\GrsIn w.heap.size w4 v4 i/\i.map (·.2.2)=plN c least m/\BL w w4):=⟨n+1,a4,by omega,by go_num,au,av,l.trans aw⟩;clear U au av aw s X d0 d1 d2 d3 d4 d5;go_wp2;go_roundw
    case rel =>
     obtain⟨m,i,g1,g2,g3,g4,g5⟩:=HR.out;exact⟨m,i,g1,g2,g3,g4,g5⟩
    case measure=>simp [intOf];omega
   ·have X:Hid (plN c least (n+1)=plN c least n):=E.out (by unfold fewB;rw[F,decide_eq_false ao];rfl);clear F N E;go_wp2;go_roundw
    case rel=>exact ⟨n+1,d,by omega,by go_num,T.out,by rw[X.out];exact s.out,l⟩
    case measure=>simp [intOf];omega
def planE (fs:List Fl) (least:Int):Nat×Option Nat:=if (listE fs).1≠0 then listE fs else if 0<=least/\least<=41 then (0,none) else (2,none)
theorem zb0a (v:Value) (b:List Fl) (least:Int) (w:World) (a:Nat->Addr) (h:EnvL w a) (p:FlsAt w v b) (t:b.length<=100) (o:Short b) (f:(listE b).1≠0\/least<0\/41<least) :
  Calls Tryz.prog 10 #[v,.int .i64 least] w fun e w'=> ∃ev,e= .returned (.tuple #[.slice none 0 0,ev])/\ToldE w' a ev (planE b least)/\BL w w':=by
 have g:Hid ((listE b).1≠0->planE b least=listE b):=fun e=>by unfold planE;rw[if_pos e]
 have i:Hid ((listE b).1=0->(least<0\/41<least)->planE b least=(2,none)):=fun e y=>by unfold planE;rw[if_neg (by simpa using e),if_neg (by omega)]
 generalize planE b least=s at g i ⊢;have n:=zn1 v b w a h p t o;have r:Hid (∀W,BL w W->EnvN W a):=fun W c=>h.file.env.below c;obtain⟨q,C,rfl⟩:=p.form;generalize b.length=L at *;clear p t o h
 go_enter Tryz.func10,Tryz.ntmps10
 go_wp2_with fail
 refine n.mono ?_;rintro e m ⟨ev,rfl,k,j⟩;clear n;by_cases d:(listE b).1=0
 case neg =>
  have l:Hid (ToldE m a ev s):=by have e:=g.out d;rw[<-e]at k;exact k
  obtain⟨A,B,rfl⟩:=k.bad d;clear k d f g i;go_wp2;refine bodyPost_ret (v:=.tuple #[.slice none 0 0,.iface A B]) (by simp[results,Tryz.results10,go_sem]) rfl ?_;exact⟨_,rfl,l.out,j⟩
 case pos =>
 obtain rfl:=k.ok d;have c:least<0\/41<least:=by
  rcases f with h | h
  ·exact absurd d h
  ·exact h
 have l:Hid (s=(2,none)):=i.out d c;clear k d f g i;have u:=(r.out m j).bound;have y:=za0 (Below.drew (Below.refl m.heap.size m)) u;rcases c with c | c
 ·have z:least<0:=c
  go_upto_region 5 with fail
  go_region
  all_goals go_wp2
  all_goals refine bodyPost_ret (v:=.tuple #[.slice none 0 0,.iface 325 (.pointer (some (a 1)))]) (by simp[results,Tryz.results10,go_sem]) rfl ?_
  all_goals exact⟨_,rfl,by rw[l.out];rfl,j.drew⟩
 ·have z:¬least<0:=by omega
  have D:41<least:=c
  go_upto_region 5 with fail
  go_region
  all_goals go_wp2
  all_goals refine bodyPost_ret (v:=.tuple #[.slice none 0 0,.iface 325 (.pointer (some (a 1)))]) (by simp[results,Tryz.results10,go_sem]) rfl ?_
  all_goals exact⟨_,rfl,by rw[l.out];rfl,j.drew⟩
theorem zn7 (W:World):TssAt W (.slice none 0 0) []:=⟨[],rfl,Or.inl ⟨rfl,rfl⟩,fun j h=>absurd h (Nat.not_lt_zero j)⟩
def PlanP (w:World) (a:Nat->Addr) (fs:List Fl) (least:Int) (e:Ending) (w':World):Prop :=
 ∃v ev,e= .returned (.tuple #[v,ev])/\ToldE w' a ev (planE fs least)/\TssAt w' v (if (planE fs least).1=0 then planD fs least else [])/\BL w w'
theorem zc6m (v:Value) (b:List Fl) (least:Int) (w:World) (a:Nat->Addr) (h:EnvL w a) (g:FlsAt w v b) (i:b.length<=100) (d:Short b) :
  Calls Tryz.prog 10 #[v,.int .i64 least] w fun e w'=>PlanP w a b least e w':=by
 by_cases c:(listE b).1=0
 ·by_cases f:0<=least/\least<=41
  ·have e:planE b least=(0,none):=by unfold planE;rw[if_neg (by simpa using c),if_pos f]
   exact(zc6l v b least w a h g i d c f.1 f.2).mono fun _ w' ⟨v',he,ht,hb'⟩=>⟨v',_,he,by rw[e];rfl,by rw[e,if_pos rfl];exact ht,hb'⟩
  ·have e:planE b least=(2,none):=by unfold planE;rw[if_neg (by simpa using c),if_neg f]
   exact(zb0a v b least w a h g i d (Or.inr (by omega))).mono fun _ w' ⟨ev,he,ht,hb'⟩=>⟨_,ev,he,ht,by rw[e,if_neg (by simp)];exact zn7 w',hb'⟩
 ·have e:planE b least=listE b:=by unfold planE;rw[if_pos c]
  exact(zb0a v b least w a h g i d (Or.inl c)).mono fun _ w' ⟨ev,he,ht,hb'⟩=>⟨_,ev,he,ht,by rw[e,if_neg c];exact zn7 w',hb'⟩
end Go.Proofs.YtgckdomafbnmkaaGreatDoor
