/- By an AI agent. -/
import Derived.Test.YtgckdomafbnmkaaGreatDoorRefLines
import Derived.LaidEql
import Derived.Stop.Asserts
import Derived.RowKitTokens
set_option maxRecDepth 100000
set_option maxHeartbeats 16000000
namespace Go.Proofs.YtgckdomafbnmkaaGreatDoor
open Go.RowKit Go.Extern.Stop Go.Stop Go.Extern Go.Sort Go.Shelf Go.Lib
theorem zq6 (s:ByteArray) (w:World) (Q:s.size<=100000) :
  Calls Tryz.prog 79 #[.string s] w fun e w'=>e= .returned (.tuple #[.string (bytesOf (pathR s.data.toList).1),.int .i64 (pathR s.data.toList).2.1,.int .i64 (pathR s.data.toList).2.2])/\w'=w:=by
 have C:=za3 s;have u:pathO s.data.toList=none->(Ending.returned (.tuple #[.string ⟨#[]⟩,.int .i64 0,.int .i64 5])=Ending.returned (.tuple #[.string (bytesOf (pathR s.data.toList).1),.int .i64 (pathR s.data.toList).2.1,.int .i64 (pathR s.data.toList).2.2])):=fun hp0=>by
  rw[zf9 hp0];rfl
 have g:Hid (pathO s.data.toList=none->(Ending.returned (.tuple #[.string ⟨#[]⟩,.int .i64 0,.int .i64 5])=Ending.returned (.tuple #[.string (bytesOf (pathR s.data.toList).1),.int .i64 (pathR s.data.toList).2.1,.int .i64 (pathR s.data.toList).2.2]))):=u;clear u;by_cases L:s.size<6
 ·have i:Hid (pathO s.data.toList=none):=zb2s (by omega);clear C
  go_enter Tryz.func79,Tryz.ntmps79
  go_wp2
  go_ret3
  exact⟨g.out i.out,rfl⟩
 ·have t:Hid (pathO s.data.toList=if (s.data.toList.take 4=kData\/s.data.toList.take 4=kGone)/\s.data.toList[4]? =some 47 then (pathN (s.data.toList.drop 5)).map fun n=>(decide (s.data.toList.take 4=kGone),n) else none):=zb2r (by omega);have v:=zc4 s 4 (by omega);have y:Hid (s.data.toList[4]? =some s[4]):=v;have f:(s.extract 0 4).data.toList=s.data.toList.take 4:=by rw[extract_from_zero]
  have D:(s.extract 5 s.size).data.toList=s.data.toList.drop 5:=by rw[extract_to_end]
  have b:=zl2 (s.extract 5 s.size) w (by rw[ByteArray.size_extract];unfold maxLen;omega);rw[D]at b;have M:¬(s.size:Int)<6:=by omega
  have N:(4:Int)<=(s.size:Int):=by omega
  have O:(5:Int)<=(s.size:Int):=by omega
  have P:(4:Int)<(s.size:Int):=by omega
  clear v D;by_cases c:(s.data.toList.take 4=kData\/s.data.toList.take 4=kGone)
  ·by_cases j:s[4]=47
   ·unfold numR at b;have B:Hid (pathO s.data.toList=(pathN (s.data.toList.drop 5)).map fun n=>(decide (s.data.toList.take 4=kGone),n)):=by
     show _=_;rw[t.out,if_pos ⟨c,by rw[y.out,j]⟩]
    have E:(s[4].toNat:Int)=47:=by rw[j];rfl
    cases r:numO (s.data.toList.drop 5) with
    | none =>
     have i:Hid (pathO s.data.toList=none):=by
      show _=_;rw[B.out];unfold pathN;rw[r];rfl
     rw[r]at b;dsimp only at b;clear r j;rcases c with c | c
     ·have k:=za6 (f.trans c);simp only[kData]at k;clear c f
      go_enter Tryz.func79,Tryz.ntmps79
      go_wp2_with (go_at_call 124;refine b.mono ?_;rintro e m ⟨rfl,d⟩;rw[d];clear d)
      go_ret3
      exact⟨g.out i.out,rfl⟩
     ·have k:=za7 (s:=s.extract 0 4) (l:= [100,97,116,97]) (by rw[f,c];decide);have o:=za6 (f.trans c);simp only[kGone]at o;clear c f
      go_enter Tryz.func79,Tryz.ntmps79
      go_wp2_with (go_at_call 124;refine b.mono ?_;rintro e m ⟨rfl,d⟩;rw[d];clear d)
      go_ret3
      exact⟨g.out i.out,rfl⟩
    | some n =>
     rw[r]at b;dsimp only at b;by_cases p:1<=n/\n<=1073741824
     ·have q:cntB n=true:=by simp[cntB,p.1,p.2]
      have H:Hid (pathO s.data.toList=some (decide (s.data.toList.take 4=kGone),n)):=by
       show _=_;rw[B.out];unfold pathN;rw[r];simp[q]
      obtain⟨z,A⟩:=p;clear r q j;have F:Hid (pathR s.data.toList=(s.data.toList.take 4,n,0)):=by
       show _=_;rw[zd0 H.out];rcases c with c | c
       ·rw[c];rfl
       ·rw[c];rfl
      have G:Hid (bytesOf (s.data.toList.take 4)=s.extract 0 4):=by
       show _=_;rw[<-f,zd8]
      rcases c with c | c
      ·have k:=za6 (f.trans c);simp only[kData]at k;clear c f
       go_enter Tryz.func79,Tryz.ntmps79
       go_wp2_with (go_at_call 124;refine b.mono ?_;rintro e m ⟨rfl,d⟩;rw[d];clear d)
       go_ret3
       exact⟨by rw[F.out,G.out];rfl,rfl⟩
      ·have k:=za7 (s:=s.extract 0 4) (l:= [100,97,116,97]) (by rw[f,c];decide);have o:=za6 (f.trans c);simp only[kGone]at o;clear c f
       go_enter Tryz.func79,Tryz.ntmps79
       go_wp2_with (go_at_call 124;refine b.mono ?_;rintro e m ⟨rfl,d⟩;rw[d];clear d)
       go_ret3
       exact⟨by rw[F.out,G.out];rfl,rfl⟩
     ·have q:cntB n=false:=by
       cases h:cntB n with
       | false=>rfl
       | true=>simp only[cntB,Bool.and_eq_true,decide_eq_true_eq]at h;exact absurd h p
      have i:Hid (pathO s.data.toList=none):=by
       show _=_;rw[B.out];unfold pathN;rw[r];simp[q]
      clear r q j;rcases c with c | c
      ·have k:=za6 (f.trans c);simp only[kData]at k;clear c f;by_cases z:n<1
       ·clear p
        go_enter Tryz.func79,Tryz.ntmps79
        go_wp2_with (go_at_call 124;refine b.mono ?_;rintro e m ⟨rfl,d⟩;rw[d];clear d)
        go_ret3
        exact⟨g.out i.out,rfl⟩
       ·have A:1073741824<n:=by omega
        clear p
        go_enter Tryz.func79,Tryz.ntmps79
        go_wp2_with (go_at_call 124;refine b.mono ?_;rintro e m ⟨rfl,d⟩;rw[d];clear d)
        go_ret3
        exact⟨g.out i.out,rfl⟩
      ·have k:=za7 (s:=s.extract 0 4) (l:= [100,97,116,97]) (by rw[f,c];decide);have o:=za6 (f.trans c);simp only[kGone]at o;clear c f;by_cases z:n<1
       ·clear p
        go_enter Tryz.func79,Tryz.ntmps79
        go_wp2_with (go_at_call 124;refine b.mono ?_;rintro e m ⟨rfl,d⟩;rw[d];clear d)
        go_ret3
        exact⟨g.out i.out,rfl⟩
       ·have A:1073741824<n:=by omega
        clear p
        go_enter Tryz.func79,Tryz.ntmps79
        go_wp2_with (go_at_call 124;refine b.mono ?_;rintro e m ⟨rfl,d⟩;rw[d];clear d)
        go_ret3
        exact⟨g.out i.out,rfl⟩
   ·have i:Hid (pathO s.data.toList=none):=by
     show _=_;rw[t.out,if_neg];rintro⟨_,e⟩;rw[y.out]at e;exact j (Option.some.inj e)
    have E:¬(s[4].toNat:Int)=47:=fun e=>j (by
     have I:s[4].toNat=47:=by omega
     exact UInt8.toNat_inj.1 I)
    generalize numR (s.data.toList.drop 5)=R at b;obtain⟨J,K⟩:=R;dsimp only at b;clear j;rcases c with c | c
    ·have k:=za6 (f.trans c);simp only[kData]at k;clear c f
     go_enter Tryz.func79,Tryz.ntmps79
     go_wp2_with (go_at_call 124;refine b.mono ?_;rintro e m ⟨rfl,d⟩;rw[d];clear d)
     go_ret3
     exact⟨g.out i.out,rfl⟩
    ·have k:=za7 (s:=s.extract 0 4) (l:= [100,97,116,97]) (by rw[f,c];decide);have o:=za6 (f.trans c);simp only[kGone]at o;clear c f
     go_enter Tryz.func79,Tryz.ntmps79
     go_wp2_with (go_at_call 124;refine b.mono ?_;rintro e m ⟨rfl,d⟩;rw[d];clear d)
     go_ret3
     exact⟨g.out i.out,rfl⟩
  ·have i:Hid (pathO s.data.toList=none):=by
    show _=_;rw[t.out,if_neg];rintro⟨e,_⟩;exact c e
   have k:=za7 (s:=s.extract 0 4) (l:= [100,97,116,97]) (by rw[f];exact fun e=>c (Or.inl e));have o:=za7 (s:=s.extract 0 4) (l:= [103,111,110,101]) (by rw[f];exact fun e=>c (Or.inr e));generalize numR (s.data.toList.drop 5)=R at b;obtain⟨J,K⟩:=R;dsimp only at b;clear c f
   go_enter Tryz.func79,Tryz.ntmps79
   go_wp2_with (go_at_call 124;refine b.mono ?_;rintro e m ⟨rfl,d⟩;rw[d];clear d)
   go_ret3
   exact⟨g.out i.out,rfl⟩
theorem za4k (f:Fl) (w:World) (h1:f.1.size<=100000) (h2:f.2.1.size<=100000) :
  Calls Tryz.prog 66 #[flV f] w fun e w'=>e= .returned (.int .i64 (fileE f))/\BL w w':=by
 have b:BL w (w.alloc (.cells #[.string f.1,.string f.2.1,.int .i64 f.2.2.1,.int .i64 f.2.2.2.1,.int .i64 f.2.2.2.2.1,.int .i64 f.2.2.2.2.2] 43)):=alB _ _;have I:=FlAt.new w f;obtain⟨p,q,n,i,j,c⟩:=f;dsimp only at h1 h2 b;have M:=fun W=>zq6 p W h1;have J:=fun W=>za3v q 12 W (by unfold maxLen;omega);have F:=fun W=>zl1 i W;have G:=fun W=>zl1 j W;unfold flV;dsimp only;generalize hE:fileE (p,q,n,i,j,c)=E;have HE:Hid (fileE (p,q,n,i,j,c)=E):=hE;clear hE;have Q:Hid (E=match pathO p.data.toList with
  | none=>5
  | some (g,_)=>if partB g q.data.toList then (if bndB (p,q,n,i,j,c) then 0 else 2) else 4):=by
  show _=_;rw[<-HE.out];rfl
 clear HE
 go_enter Tryz.func66,Tryz.ntmps66
 go_wp2_with fail
 generalize w.alloc (.cells #[.string p,.string q,.int .i64 n,.int .i64 i,.int .i64 j,.int .i64 c] 43)=WA at b I ⊢;refine(M _).mono ?_;rintro e w1 ⟨rfl,O⟩;rw[O];clear M O;obtain⟨c0,c1,c2,c3,c4,c5,cf⟩:=I.cells;dsimp only at c0 c1 c2 c3 c4 c5;clear I
 cases H:pathO p.data.toList with
 | none =>
  have r:=Q.out;rw[H]at r;dsimp only at r;subst r;rw[zf9 H];clear H J F G c0 c1 c2 c3 c4 c5 cf;go_wp2;go_ret;exact⟨rfl,b⟩
 | some gn =>
  obtain⟨g,k⟩:=gn;have r:=Q.out;rw[H]at r;dsimp only at r;have D:Hid (E=if partB g q.data.toList then (if bndB (p,q,n,i,j,c) then 0 else 2) else 4):=r;rw[zd0 H];clear H r Q;dsimp only
  go_wp2_with fail
  refine(J _).mono ?_;rintro e w2 ⟨rfl,P⟩;rw[P];clear J P;have m:(bytesOf (kindL g)).data.toList=kindL g:=zc8 _;by_cases t:partB g q.data.toList=true
  ·have R:Hid (E=if bndB (p,q,n,i,j,c) then 0 else 2):=by
    show _=_;rw[D.out,if_pos t]
   have K:Hid (bndB (p,q,n,i,j,c)=true↔1<=n/\n<=40/\inNum i=true/\inNum j=true/\i<=j/\1<=c/\c<=1073741824):=by
    show _↔_;simp only[bndB,cntB,Bool.and_eq_true,decide_eq_true_eq];constructor
    ·rintro⟨⟨⟨⟨⟨S,T⟩,U⟩,V⟩,X⟩,Y,Z⟩;exact⟨S,T,U,V,X,Y,Z⟩
    ·rintro⟨S,T,U,V,X,Y,Z⟩;exact⟨⟨⟨⟨⟨S,T⟩,U⟩,V⟩,X⟩,Y,Z⟩
   have N:¬(1<=n/\n<=40/\inNum i=true/\inNum j=true/\i<=j/\1<=c/\c<=1073741824)->E=2:=fun hb=>by
    rw[R.out,if_neg (fun e=>hb (K.out.1 e))]
   have d:Hid (¬(1<=n/\n<=40/\inNum i=true/\inNum j=true/\i<=j/\1<=c/\c<=1073741824)->E=2):=N;clear N D;cases g
   ·have C:=za7 (s:=bytesOf (kindL false)) (l:= [103,111,110,101]) (by rw[m];decide);have L:=za6 (s:=bytesOf (kindL false)) (l:= [100,97,116,97]) (by rw[m];rfl);have y:wordB 12 q.data.toList=true:=by simpa [partB] using t
    rw[y];generalize bytesOf (kindL false)=kB at C L ⊢;clear m t y
    go_wp2_with fail
    refine(F _).mono ?_;rintro e w3 ⟨rfl,A⟩;rw[A];clear A F
    go_wp2_with fail
    refine(G _).mono ?_;rintro e w4 ⟨rfl,B⟩;rw[B];clear B G;by_cases g1:n<1
    ·obtain rfl:=d.out (fun ⟨b1,_⟩=>by omega);go_wp2;go_ret;exact⟨rfl,b⟩
    ·by_cases g2:40<n
     ·obtain rfl:=d.out (fun ⟨_,b1,_⟩=>by omega);go_wp2;go_ret;exact⟨rfl,b⟩
     ·cases o:inNum i with
      | false =>
       obtain rfl:=d.out (fun ⟨_,_,b1,_⟩=>by rw[o]at b1;cases b1);clear o;go_wp2;go_ret;exact⟨rfl,b⟩
      | true =>
       cases u:inNum j with
       | false =>
        obtain rfl:=d.out (fun ⟨_,_,_,b1,_⟩=>by rw[u]at b1;cases b1);clear o u;go_wp2;go_ret;exact⟨rfl,b⟩
       | true =>
        by_cases g5:j<i
        ·obtain rfl:=d.out (fun ⟨_,_,_,_,b1,_⟩=>by omega);clear o u;go_wp2;go_ret;exact⟨rfl,b⟩
        ·by_cases g6:c<1
         ·obtain rfl:=d.out (fun ⟨_,_,_,_,_,b1,_⟩=>by omega);clear o u;go_wp2;go_ret;exact⟨rfl,b⟩
         ·by_cases g7:1073741824<c
          ·obtain rfl:=d.out (fun ⟨_,_,_,_,_,_,b1⟩=>by omega);clear o u;go_wp2;go_ret;exact⟨rfl,b⟩
          ·have v:E=0:=by rw[R.out,if_pos (K.out.2 ⟨by omega,by omega,o,u,by omega,by omega,by omega⟩)]
           subst v;clear o u;go_wp2;go_ret;exact⟨rfl,b⟩
   ·have C:=za6 (s:=bytesOf (kindL true)) (l:= [103,111,110,101]) (by rw[m];rfl);have L:=za7 (s:=bytesOf (kindL true)) (l:= [100,97,116,97]) (by rw[m];decide);have z:q.data.toList= [45]:=by simpa [partB] using t
    have d3:=za6 z;generalize wordB 12 q.data.toList=wb;generalize bytesOf (kindL true)=kB at C L ⊢;clear m t z
    go_wp2_with fail
    refine(F _).mono ?_;rintro e w3 ⟨rfl,A⟩;rw[A];clear A F
    go_wp2_with fail
    refine(G _).mono ?_;rintro e w4 ⟨rfl,B⟩;rw[B];clear B G;by_cases g1:n<1
    ·obtain rfl:=d.out (fun ⟨b1,_⟩=>by omega);go_wp2;go_ret;exact⟨rfl,b⟩
    ·by_cases g2:40<n
     ·obtain rfl:=d.out (fun ⟨_,b1,_⟩=>by omega);go_wp2;go_ret;exact⟨rfl,b⟩
     ·cases o:inNum i with
      | false =>
       obtain rfl:=d.out (fun ⟨_,_,b1,_⟩=>by rw[o]at b1;cases b1);clear o;go_wp2;go_ret;exact⟨rfl,b⟩
      | true =>
       cases u:inNum j with
       | false =>
        obtain rfl:=d.out (fun ⟨_,_,_,b1,_⟩=>by rw[u]at b1;cases b1);clear o u;go_wp2;go_ret;exact⟨rfl,b⟩
       | true =>
        by_cases g5:j<i
        ·obtain rfl:=d.out (fun ⟨_,_,_,_,b1,_⟩=>by omega);clear o u;go_wp2;go_ret;exact⟨rfl,b⟩
        ·by_cases g6:c<1
         ·obtain rfl:=d.out (fun ⟨_,_,_,_,_,b1,_⟩=>by omega);clear o u;go_wp2;go_ret;exact⟨rfl,b⟩
         ·by_cases g7:1073741824<c
          ·obtain rfl:=d.out (fun ⟨_,_,_,_,_,_,b1⟩=>by omega);clear o u;go_wp2;go_ret;exact⟨rfl,b⟩
          ·have v:E=0:=by rw[R.out,if_pos (K.out.2 ⟨by omega,by omega,o,u,by omega,by omega,by omega⟩)]
           subst v;clear o u;go_wp2;go_ret;exact⟨rfl,b⟩
  ·have r:E=4:=by rw[D.out,if_neg t]
   subst r;clear D F G;cases g
   ·have C:=za7 (s:=bytesOf (kindL false)) (l:= [103,111,110,101]) (by rw[m];decide);have L:=za6 (s:=bytesOf (kindL false)) (l:= [100,97,116,97]) (by rw[m];rfl);have y:wordB 12 q.data.toList=false:=by simpa [partB] using t
    rw[y];generalize bytesOf (kindL false)=kB at C L ⊢;clear m t y;go_wp2;go_ret;exact⟨rfl,b⟩
   ·have C:=za6 (s:=bytesOf (kindL true)) (l:= [103,111,110,101]) (by rw[m];rfl);have z:q.data.toList≠ [45]:=by simpa [partB] using t
    have d3:=za7 z;generalize wordB 12 q.data.toList=wb;generalize bytesOf (kindL true)=kB at C ⊢;clear m t z;go_wp2;go_ret;exact⟨rfl,b⟩
def flSet (W:World) (b:Nat) (f:Fl):World:=(((((W.setCell ⟨b,0,none⟩ (.string f.1)).setCell ⟨b,1,none⟩ (.string f.2.1)).setCell ⟨b,2,none⟩ (.int .i64 f.2.2.1)).setCell ⟨b,3,none⟩ (.int .i64 f.2.2.2.1)).setCell ⟨b,4,none⟩ (.int .i64 f.2.2.2.2.1)).setCell ⟨b,5,none⟩ (.int .i64 f.2.2.2.2.2)
theorem FlAt.set {W:World} {b:Nat} {f:Fl} (h:FlAt W b f) (c:Fl):FlAt (flSet W b c) b c:=by
 unfold FlAt flSet at *;rw[heap_setCell_same _ _ _ _ _ _ (heap_setCell_same _ _ _ _ _ _ (heap_setCell_same _ _ _ _ _ _ (heap_setCell_same _ _ _ _ _ _ (heap_setCell_same _ _ _ _ _ _ (heap_setCell_same _ _ _ _ _ _ h)))))];rfl
theorem zl5 {W d:World} {B b:Nat} {f:Fl} (h:Below B d W) (c:B<=b):Below B d (flSet W b f):=(((((h.setCell c _).setCell c _).setCell c _).setCell c _).setCell c _).setCell c _
theorem za4l (f:Fl) (w:World) (a:Nat->Addr) (h:EnvK w a) (U:f.1.size<=100000) (V:f.2.1.size<=100000) :
  Calls Tryz.prog 143 #[flV f] w fun e w'=>e= .returned (.tuple #[flV (chkF f).1,errV a (chkF f).2])/\BL w w':=by
 have d:BL w ((w.alloc (.cells #[.string f.1,.string f.2.1,.int .i64 f.2.2.1,.int .i64 f.2.2.2.1,.int .i64 f.2.2.2.2.1,.int .i64 f.2.2.2.2.2] 43)).alloc (.cells #[.string ⟨#[]⟩,.string ⟨#[]⟩,.int .i64 0,.int .i64 0,.int .i64 0,.int .i64 0] 43)):=(alB _ _).alloc (by simp) _;have g:FlAt ((w.alloc (.cells #[.string f.1,.string f.2.1,.int .i64 f.2.2.1,.int .i64 f.2.2.2.1,.int .i64 f.2.2.2.2.1,.int .i64 f.2.2.2.2.2] 43)).alloc (.cells #[.string ⟨#[]⟩,.string ⟨#[]⟩,.int .i64 0,.int .i64 0,.int .i64 0,.int .i64 0] 43)) w.heap.size f:=(FlAt.new w f).below (alB _ _);have c:FlAt ((w.alloc (.cells #[.string f.1,.string f.2.1,.int .i64 f.2.2.1,.int .i64 f.2.2.2.1,.int .i64 f.2.2.2.2.1,.int .i64 f.2.2.2.2.2] 43)).alloc (.cells #[.string ⟨#[]⟩,.string ⟨#[]⟩,.int .i64 0,.int .i64 0,.int .i64 0,.int .i64 0] 43)) (w.heap.size+1) zeroF:=by
  have:=FlAt.new (w.alloc (.cells #[.string f.1,.string f.2.1,.int .i64 f.2.2.1,.int .i64 f.2.2.2.1,.int .i64 f.2.2.2.2.1,.int .i64 f.2.2.2.2.2] 43)) zeroF;rw[show (w.alloc (.cells #[.string f.1,.string f.2.1,.int .i64 f.2.2.1,.int .i64 f.2.2.2.1,.int .i64 f.2.2.2.2.1,.int .i64 f.2.2.2.2.2] 43)).heap.size=w.heap.size+1 by simp]at this;exact this
 have b:=za4g f _ a (h.below d) U V;unfold chkF;by_cases A:fileE f=0
 ·rw[if_pos A];rw[A]at b;clear A;obtain⟨p,q,n,r,s,k⟩:=f;unfold flV at b ⊢;dsimp only at b d g c ⊢;simp only[errV]at b ⊢
  go_enter Tryz.func143,Tryz.ntmps143
  go_wp2_with fail
  generalize (w.alloc (.cells #[.string p,.string q,.int .i64 n,.int .i64 r,.int .i64 s,.int .i64 k] 43)).alloc (.cells #[.string ⟨#[]⟩,.string ⟨#[]⟩,.int .i64 0,.int .i64 0,.int .i64 0,.int .i64 0] 43)=T at d g c b ⊢;refine b.mono ?_;rintro e J ⟨rfl,l⟩;clear b;have B:BL w J:=trB d l;obtain⟨M,N,O,P,Q,R,_⟩:=(g.below l).cells;have i:=c.below l;obtain⟨m,o,t,u,y,z,S⟩:=i.cells;obtain⟨D,E,F,G,H,I,K⟩:=(i.set (p,q,n,r,s,k)).cells;have C:=zl5 (f:=(p,q,n,r,s,k)) B (Nat.le_succ w.heap.size);unfold flSet at D E F G H I K C;dsimp only at M N O P Q R m o t u y z D E F G H I K C;simp only[zeroF]at m o t u y z;clear g c i;go_wp2;exact bodyPost_ret (v:=.tuple #[.agg #[.string p,.string q,.int .i64 n,.int .i64 r,.int .i64 s,.int .i64 k],.nilIface]) (by simp[results,Tryz.results143,go_sem,D,E,F,G,H,I]) rfl ⟨rfl,C⟩
 ·rw[if_neg A];obtain⟨j,L⟩:∃j,fileE f=j+1:=⟨fileE f-1,by omega⟩;rw[L]at b ⊢;clear A L;obtain⟨p,q,n,r,s,k⟩:=f;unfold flV zeroF at *;dsimp only at b d g c ⊢;simp only[errV]at b ⊢
  go_enter Tryz.func143,Tryz.ntmps143
  go_wp2_with fail
  generalize (w.alloc (.cells #[.string p,.string q,.int .i64 n,.int .i64 r,.int .i64 s,.int .i64 k] 43)).alloc (.cells #[.string ⟨#[]⟩,.string ⟨#[]⟩,.int .i64 0,.int .i64 0,.int .i64 0,.int .i64 0] 43)=T at d g c b ⊢;refine b.mono ?_;rintro e J ⟨rfl,l⟩;clear b;have B:BL w J:=trB d l;have i:=c.below l;obtain⟨m,o,t,u,y,z,S⟩:=i.cells;dsimp only at m o t u y z;simp only[bytesOf]at m o;have W:=za1 m;have X:=za1 o;have Y:=za1 t;have Z:=za1 u;have s4:=za1 y;have s5:=za1 z;clear g c i;go_wp2;exact bodyPost_ret (v:=.tuple #[.agg #[.string ⟨#[]⟩,.string ⟨#[]⟩,.int .i64 0,.int .i64 0,.int .i64 0,.int .i64 0],.iface 325 (.pointer (some (a j)))]) (by simp[results,Tryz.results143,go_sem,m,o,t,u,y,z]) rfl ⟨rfl,B⟩
theorem neqF (f:Fl) (w:World):(binOp .neq 43 (flV f) (flV f)).run Tryz.prog w= .ok (.bool false) w:=by
 have g:=Tryz.underlying3;have i:=Tryz.underlying9;have j:=Tryz.isAgg3;have k:=Tryz.sizeOf3;have l:=Tryz.isAgg9;have m:=Tryz.sizeOf9;have b:Tryz.prog.underlying 43=some (.struct (Tryz.prog.fieldsOf 43)):=by kernel_rfl
 have c:Tryz.prog.stoodInHeld 43=false:=by kernel_rfl
 obtain⟨p,q,n,o,r,d⟩:=f;unfold flV;dsimp only;rw[run_neq_struct,show (10000:Nat)=9999+1 from rfl,run_equalIn_agg w 9999 43 _ _ b c];simp only[Program.fieldsOf,Tryz.underlying43]
 go_simp
theorem neqF2 (f g:Fl) (h:f≠g) (w:World):(binOp .neq 43 (flV f) (flV g)).run Tryz.prog w= .ok (.bool true) w:=by
 have A:=Tryz.underlying3;have B:=Tryz.underlying9;have C:=Tryz.isAgg3;have D:=Tryz.sizeOf3;have E:=Tryz.isAgg9;have F:=Tryz.sizeOf9;have j:Tryz.prog.underlying 43=some (.struct (Tryz.prog.fieldsOf 43)):=by kernel_rfl
 have k:Tryz.prog.stoodInHeld 43=false:=by kernel_rfl
 obtain⟨p,q,n,G,H,v⟩:=f;obtain⟨b,c,I,y,z,o⟩:=g;unfold flV;dsimp only;rw[run_neq_struct,show (10000:Nat)=9999+1 from rfl,run_equalIn_agg w 9999 43 _ _ j k];simp only[Program.fieldsOf,Tryz.underlying43]
 go_simp
 intro d i r s t u;refine h ?_;rw[ByteArray.toList_eq,ByteArray.toList_eq]at d i;have l:p=b:=by
  cases p;cases b
  simpa using d
 have m:q=c:=by
  cases q;cases c
  simpa using i
 rw[l,m,r,s,t,u]
theorem guardF:GuardAt Tryz.prog 43 flV:=GuardAt.agg _ (by kernel_rfl)
def longFB (f:Fl):Bool:=decide (30<f.1.size) || decide (30<f.2.1.size)
theorem zx3 (f:Fl) (w:World) (i:f.1.size<=maxLen) (j:f.2.1.size<=maxLen) :
  Calls Tryz.prog 60 #[flV f] w fun e w'=>e= .returned (.int .i64 (if longFB f then 1 else 0))/\BL w w':=by
 have b:BL w (w.alloc (.cells #[.string f.1,.string f.2.1,.int .i64 f.2.2.1,.int .i64 f.2.2.2.1,.int .i64 f.2.2.2.2.1,.int .i64 f.2.2.2.2.2] 43)):=alB _ _;have c:=FlAt.new w f;unfold maxLen at i j;obtain⟨p,q,n,l,m,k⟩:=f;unfold flV longFB;dsimp only at i j b c ⊢;by_cases d:30<p.size
 ·have e:(decide (30<p.size) || decide (30<q.size))=true:=by simp[d]
  rw[e,if_pos rfl];clear e
  go_enter Tryz.func60,Tryz.ntmps60
  go_wp2;go_ret;exact⟨rfl,b⟩
 ·by_cases g:30<q.size
  ·have e:(decide (30<p.size) || decide (30<q.size))=true:=by simp[g]
   rw[e,if_pos rfl];clear e
   go_enter Tryz.func60,Tryz.ntmps60
   go_wp2;go_ret;exact⟨rfl,b⟩
  ·have e:(decide (30<p.size) || decide (30<q.size))=false:=by simp[d,g]
   rw[e,if_neg (by simp)];clear e
   go_enter Tryz.func60,Tryz.ntmps60
   go_wp2;go_ret;exact⟨rfl,b⟩
theorem cells6 (w:World) (f:Fl):∀j u,(encF f)[j]? =some u->(w.alloc (.cells #[.string f.1,.string f.2.1,.int .i64 f.2.2.1,.int .i64 f.2.2.2.1,.int .i64 f.2.2.2.2.1,.int .i64 f.2.2.2.2.2] 43)).cell? ((⟨w.heap.size,0,none⟩:Addr).add j)=some u:=by
 intro j u b;rw[Addr.add_lit,Nat.zero_add,cell_of_row _ _ _ _ _ _ (heap_alloc_new _ _)];rw[<-b];simp[encF]
theorem za4m (p q:ByteArray) (w:World) (H:p.size<=100000) (I:q.size<=100000) :
  Calls Tryz.prog 67 #[.string p,.string q] w fun e w'=>e= .returned (.bool (decide (pk q.data.toList<pk p.data.toList)))/\w'=w:=by
 have f:=zq6 p w H;have i:=zq6 q w I;have D:=@ze8 p.data.toList;have E:=@ze8 q.data.toList;have u:∀s:List UInt8,(pathR s=([],0,5)/\pk s=0)\/(∃n:Int,pathR s=(kData,n,0)/\pk s=n/\1<=n/\n<=1073741824)\/∃n:Int,pathR s=(kGone,n,0)/\pk s=1073741824+n/\1<=n/\n<=1073741824:=fun s=>by
  cases y:pathO s with
  | none=>exact Or.inl ⟨zf9 y,by unfold pk;rw[y]⟩
  | some gn =>
   obtain⟨g,n⟩:=gn;obtain⟨e,F,G⟩:=ze8 y;cases g
   ·exact Or.inr (Or.inl ⟨n,zd0 y,by simpa using e,F,G⟩)
   ·exact Or.inr (Or.inr ⟨n,zd0 y,by simpa using e,F,G⟩)
 have z:=u p.data.toList;have C:=u q.data.toList;generalize pk p.data.toList=A at z;generalize pk q.data.toList=B at C;generalize pathR p.data.toList=N at f z;generalize pathR q.data.toList=O at i C;clear u D E H I;have o:bytesOf kData=⟨#[100,97,116,97]⟩:=rfl;have r:bytesOf kGone=⟨#[103,111,110,101]⟩:=rfl;have t:bytesOf []=⟨#[]⟩:=rfl;rcases z with⟨rfl,rfl⟩|⟨n,rfl,rfl,J,K⟩|⟨n,rfl,rfl,J,K⟩<;>rcases C with⟨rfl,rfl⟩|⟨m,rfl,rfl,L,M⟩|⟨m,rfl,rfl,L,M⟩
 ·dsimp only at f i;rw[t]at f;rw[t]at i
  go_enter Tryz.func67,Tryz.ntmps67
  go_wp2_with fail
  refine f.mono ?_;rintro e k ⟨rfl,c⟩;rw[c];clear f c
  go_wp2_with fail
  refine i.mono ?_;rintro e l ⟨rfl,d⟩;rw[d];clear i d;go_wp2;go_ret;exact⟨rfl,rfl⟩
 ·dsimp only at f i;rw[t]at f;rw[o]at i;have j:decide ((B:Int)<0)=false:=decide_eq_false (by omega);rw[j];clear j;have v:∀W:World,(binOp .gtr 9 (.string ⟨#[]⟩) (.string ⟨#[100,97,116,97]⟩)).run Tryz.prog W= .ok (.bool false) W:=fun W=>by first | rfl | kernel_rfl | simp[binOp,Op.stringOp]
  go_enter Tryz.func67,Tryz.ntmps67
  go_wp2_with fail
  refine f.mono ?_;rintro e k ⟨rfl,c⟩;rw[c];clear f c
  go_wp2_with fail
  refine i.mono ?_;rintro e l ⟨rfl,d⟩;rw[d];clear i d;go_wp2;go_ret;exact⟨rfl,rfl⟩
 ·dsimp only at f i;rw[t]at f;rw[r]at i;have j:decide ((1073741824+m:Int)<0)=false:=decide_eq_false (by omega);rw[j];clear j;have v:∀W:World,(binOp .gtr 9 (.string ⟨#[]⟩) (.string ⟨#[103,111,110,101]⟩)).run Tryz.prog W= .ok (.bool false) W:=fun W=>by first | rfl | kernel_rfl | simp[binOp,Op.stringOp]
  go_enter Tryz.func67,Tryz.ntmps67
  go_wp2_with fail
  refine f.mono ?_;rintro e k ⟨rfl,c⟩;rw[c];clear f c
  go_wp2_with fail
  refine i.mono ?_;rintro e l ⟨rfl,d⟩;rw[d];clear i d;go_wp2;go_ret;exact⟨rfl,rfl⟩
 ·dsimp only at f i;rw[o]at f;rw[t]at i;have j:decide ((0:Int)<A)=true:=decide_eq_true (by omega);rw[j];clear j;have v:∀W:World,(binOp .gtr 9 (.string ⟨#[100,97,116,97]⟩) (.string ⟨#[]⟩)).run Tryz.prog W= .ok (.bool true) W:=fun W=>by first | rfl | kernel_rfl | simp[binOp,Op.stringOp]
  go_enter Tryz.func67,Tryz.ntmps67
  go_wp2_with fail
  refine f.mono ?_;rintro e k ⟨rfl,c⟩;rw[c];clear f c
  go_wp2_with fail
  refine i.mono ?_;rintro e l ⟨rfl,d⟩;rw[d];clear i d;go_wp2;go_ret;exact⟨rfl,rfl⟩
 ·dsimp only at f i;rw[o]at f;rw[o]at i
  go_enter Tryz.func67,Tryz.ntmps67
  go_wp2_with fail
  refine f.mono ?_;rintro e k ⟨rfl,c⟩;rw[c];clear f c
  go_wp2_with fail
  refine i.mono ?_;rintro e l ⟨rfl,d⟩;rw[d];clear i d;go_wp2;go_ret;exact⟨rfl,rfl⟩
 ·dsimp only at f i;rw[o]at f;rw[r]at i;have j:decide ((1073741824+m:Int)<A)=false:=decide_eq_false (by omega);rw[j];clear j;have v:∀W:World,(binOp .gtr 9 (.string ⟨#[100,97,116,97]⟩) (.string ⟨#[103,111,110,101]⟩)).run Tryz.prog W= .ok (.bool false) W:=fun W=>by first | rfl | kernel_rfl | simp[binOp,Op.stringOp]
  go_enter Tryz.func67,Tryz.ntmps67
  go_wp2_with fail
  refine f.mono ?_;rintro e k ⟨rfl,c⟩;rw[c];clear f c
  go_wp2_with fail
  refine i.mono ?_;rintro e l ⟨rfl,d⟩;rw[d];clear i d;go_wp2;go_ret;exact⟨rfl,rfl⟩
 ·dsimp only at f i;rw[r]at f;rw[t]at i;have j:decide ((0:Int)<1073741824+n)=true:=decide_eq_true (by omega);rw[j];clear j;have v:∀W:World,(binOp .gtr 9 (.string ⟨#[103,111,110,101]⟩) (.string ⟨#[]⟩)).run Tryz.prog W= .ok (.bool true) W:=fun W=>by first | rfl | kernel_rfl | simp[binOp,Op.stringOp]
  go_enter Tryz.func67,Tryz.ntmps67
  go_wp2_with fail
  refine f.mono ?_;rintro e k ⟨rfl,c⟩;rw[c];clear f c
  go_wp2_with fail
  refine i.mono ?_;rintro e l ⟨rfl,d⟩;rw[d];clear i d;go_wp2;go_ret;exact⟨rfl,rfl⟩
 ·dsimp only at f i;rw[r]at f;rw[o]at i;have j:decide ((B:Int)<1073741824+n)=true:=decide_eq_true (by omega);rw[j];clear j;have v:∀W:World,(binOp .gtr 9 (.string ⟨#[103,111,110,101]⟩) (.string ⟨#[100,97,116,97]⟩)).run Tryz.prog W= .ok (.bool true) W:=fun W=>by first | rfl | kernel_rfl | simp[binOp,Op.stringOp]
  go_enter Tryz.func67,Tryz.ntmps67
  go_wp2_with fail
  refine f.mono ?_;rintro e k ⟨rfl,c⟩;rw[c];clear f c
  go_wp2_with fail
  refine i.mono ?_;rintro e l ⟨rfl,d⟩;rw[d];clear i d;go_wp2;go_ret;exact⟨rfl,rfl⟩
 ·dsimp only at f i;rw[r]at f;rw[r]at i
  go_enter Tryz.func67,Tryz.ntmps67
  go_wp2_with fail
  refine f.mono ?_;rintro e k ⟨rfl,c⟩;rw[c];clear f c
  go_wp2_with fail
  refine i.mono ?_;rintro e l ⟨rfl,d⟩;rw[d];clear i d;go_wp2;go_ret;exact⟨congrArg (fun b=>Ending.returned (Value.bool b)) (by first | rfl | (simp<;>omega)),rfl⟩
def findF (fs:List Fl) (p:ByteArray):Int:=match fs.findIdx? (fun f=>decide (f.1=p)) with
 | some i=>i
 | none=> -1
theorem zq7 {b:List Fl} {p:ByteArray} {n:Nat} (c:n<b.length) (h:∀j (h:j<b.length),j<n->b[j].1≠p) (e:b[n].1=p):findF b p=n:=by
 unfold findF;have:b.findIdx? (fun f=>decide (f.1=p))=some n:=by
  rw[List.findIdx?_eq_some_iff_getElem];exact⟨c,by simpa using e,fun j hj=>by simpa using h j (by omega) hj⟩
 rw[this]
theorem zq8 {b:List Fl} {p:ByteArray} (h:∀j (h:j<b.length),b[j].1≠p):findF b p= -1:=by
 unfold findF;have:b.findIdx? (fun f=>decide (f.1=p))=none:=by
  rw[List.findIdx?_eq_none_iff];intro f d;obtain⟨j,c,rfl⟩:=List.mem_iff_getElem.1 d;simpa using h j c
 rw[this]
theorem za4n {b:List Fl} {n:Nat} {p:ByteArray} (h:∀j (h:j<b.length),j<n->b[j].1≠p) (d:n<b.length) (e:b[n].1≠p):∀j (h:j<b.length),j<n+1->b[j].1≠p:=fun j hj hjn=>by
 rcases Nat.lt_or_ge j n with c | c
 ·exact h j hj c
 ·obtain rfl:j=n:=by omega
  exact e
theorem zx4 (v:Value) (c:List Fl) (p:ByteArray) (w:World) (s:FlsAt w v c) (H:c.length<=20000) :
  Calls Tryz.prog 12 #[v,.string p] w fun e w'=>e= .returned (.int .i64 (findF c p))/\w'=w:=by
 obtain⟨q,D,rfl⟩:=s.form;have t:Hid (FlsAt w (.slice q c.length D) c):=s;obtain⟨L,m⟩:∃L,c.length=L:=⟨_,rfl⟩;have u:Hid (c.length=L):=m;rw[m]at H ⊢;generalize E:findF c p=R;have y:Hid (findF c p=R):=E;clear m s E
 go_enter Tryz.func12,Tryz.ntmps12
 go_wp2
 go_loop [5] (fun k=> ∃n:Nat,n<=L/\k= .int .i64 n/\∀j (h:j<c.length),j<n->c[j].1≠p) (fun k=>L-(intOf k).toNat)
 case atStart=>exact ⟨0,by omega,rfl,fun j h h'=>absurd h' (Nat.not_lt_zero _)⟩
 case round =>
  obtain⟨n,J,rfl,l⟩:=hrel;have g:Hid (∀j (h:j<c.length),j<n->c[j].1≠p):=l;clear l;by_cases z:n<L
  ·have d:n<c.length:=by rw[u.out];exact z
   obtain⟨b,o,G,r⟩:=t.out.cells (fun e=>by rw[e]at d;simp at d);subst G;have A:=(r n d).1;have I:(n:Int)<(L:Int):=by omega
   have F:(0:Int)<=(n:Int):=by omega
   by_cases f:c[n].1=p
   ·have i:R=n:=by rw[<-y.out];exact zq7 d g.out f
    subst i;rw[f]at A;have B:(p.toList == p.toList)=true:=by simp
    clear r f d;go_wp2;go_ret;exact⟨rfl,rfl⟩
   ·have C:Hid (∀j (h:j<c.length),j<n+1->c[j].1≠p):=za4n g.out d f;have B:(c[n].1.toList == p.toList)=false:=neBB (fun e=>f (zc1 e));generalize c[n].1=K at A B;clear r f d;go_wp2;go_round
    case rel=>exact ⟨n+1,by omega,by go_num,C.out⟩
    case measure=>simp [intOf];omega
  ·obtain rfl:n=L:=by omega
   have i:R= -1:=by rw[<-y.out];exact zq8 (fun j hj=>g.out j hj (by rw[<-u.out];exact hj))
   subst i;go_wp2;go_ret;exact⟨rfl,rfl⟩
def kept (P:Fl->Bool) (fs:List Fl) (n:Nat):List Fl:=(fs.take n).filter P
theorem za4o (P:Fl->Bool) (b:List Fl):kept P b 0= []:=by simp[kept]
theorem zx5 (P:Fl->Bool) (b:List Fl) (n:Nat):(kept P b n).length<=n:=by
 have:=List.length_filter_le P (b.take n);rw[List.length_take]at this;unfold kept;omega
theorem zi8 (P:Fl->Bool) (b:List Fl) (n:Nat) (h:n<b.length):kept P b (n+1)=if P b[n]=true then kept P b n++ [b[n]] else kept P b n:=by
 unfold kept;rw[<-List.take_append_getElem h,List.filter_append];split
 ·rename_i c;rw[List.filter_cons_of_pos c];rfl
 ·rename_i c;rw[List.filter_cons_of_neg c];simp
theorem zx6 (P:Fl->Bool) (b:List Fl):kept P b b.length=b.filter P:=by unfold kept;rw[List.take_length]
def inP (lo hi:Int) (f:Fl):Bool:=decide ((if f.2.2.2.1<lo then lo else f.2.2.2.1)<=(if hi<f.2.2.2.2.1 then hi else f.2.2.2.2.1))
theorem zb4y (v:Value) (g:List Fl) (lo hi:Int) (w:World) (hx:FlsAt w v g) (hl:g.length<=20000) :
  Calls Tryz.prog 116 #[v,.int .i64 lo,.int .i64 hi] w fun e w'=> ∃v',e= .returned v'/\FlsAt w' v' (g.filter (inP lo hi))/\BL w w':=by
 obtain⟨X,Q,R,S,O⟩:=Tryz.fileInfo;obtain⟨q,ad,rfl⟩:=hx.form;have aa:Hid (FlsAt w (.slice q g.length ad) g):=hx;obtain⟨L,Y⟩:∃L,g.length=L:=⟨_,rfl⟩;have HX:Hid (g.length=L):=Y;rw[Y]at hl ⊢;clear Y hx
 go_enter Tryz.func116,Tryz.ntmps116
 go_wp2
 go_loopw [7,8] (fun out k wr=> ∃n:Nat,n<=L/\k= .int .i64 n/\BL w wr/\wr.ownsRow w.heap.size 43 6 out (kept (inP lo hi) g n).length (flatF (kept (inP lo hi) g n))) (fun _ k _=>L-(intOf k).toNat)
 case atStart=>exact ⟨0,by omega,rfl,Below.refl _ _,by rw[za4o];exact World.ownsRow_nil _ _ _ _⟩
 case round =>
  obtain⟨n,hn,rfl,I,U⟩:=hrel;have E:Hid (wr.ownsRow w.heap.size 43 6 u7 (kept (inP lo hi) g n).length (flatF (kept (inP lo hi) g n))):=U;clear U;by_cases ab:n<L
  ·have J:n<g.length:=by rw[HX.out];exact ab
   obtain⟨b,o,hq,hc⟩:=(aa.out.below I).cells (fun e=>by rw[e]at J;simp at J);subst hq;obtain⟨c0,c1,c2,c3,c4,c5⟩:=hc n J;have F:Hid ((kept (inP lo hi) g n).length<=L):=by
    show _<=_;have:=zx5 (inP lo hi) g n;omega
   have p:(kept (inP lo hi) g (n+1))=if (inP lo hi) g[n]=true then (kept (inP lo hi) g n)++ [g[n]] else (kept (inP lo hi) g n):=zi8 (inP lo hi) g n J;generalize g[n]=f at c0 c1 c2 c3 c4 c5 p;obtain⟨B,C,D,c,d,i⟩:=f;dsimp only at c0 c1 c2 c3 c4 c5;have af:(n:Int)<(L:Int):=by omega
   have ae:(0:Int)<=(n:Int):=by omega
   have G:BL wr (wr.alloc (.cells #[.string B,.string C,.int .i64 D,.int .i64 c,.int .i64 d,.int .i64 i] 43)):=alB _ _;have r:BL w (wr.alloc (.cells #[.string B,.string C,.int .i64 D,.int .i64 c,.int .i64 d,.int .i64 i] 43)):=I.alloc I.size _;clear hc J;have T:((c<lo/\hi<d/\lo<=hi)\/(c<lo/\hi<d/\¬lo<=hi))\/((c<lo/\¬hi<d/\lo<=d)\/(c<lo/\¬hi<d/\¬lo<=d))\/((¬c<lo/\hi<d/\c<=hi)\/(¬c<lo/\hi<d/\¬c<=hi))\/((¬c<lo/\¬hi<d/\c<=d)\/(¬c<lo/\¬hi<d/\¬c<=d)):=by omega
   rcases T with(H | H) | (H | H) | (H | H) | (H | H)<;>obtain ⟨z1,z2,z3⟩:=H
   ·have t:c<lo:=by omega
    have y:hi<d:=by omega
    have z:lo<=hi:=by omega
    have s:Hid ((kept (inP lo hi) g (n+1))=(kept (inP lo hi) g n)++ [(B,C,D,c,d,i)]):=by
     show _=_;rw[p,if_pos (by simp[inP,t,y,z])]
    clear p
    go_wp2_with (at_builtin;refine wpList_append_own _ rfl _ _ 23 rfl w.heap.size 43 X (.agg #[.string ⟨#[]⟩,.string ⟨#[]⟩,.int .i64 0,.int .i64 0,.int .i64 0,.int .i64 0]) 6 64 Tryz.underlying23 Q R S O rfl (by decide) u7 (kept (inP lo hi) g n).length (flatF (kept (inP lo hi) g n)) rfl ?qc0 ⟨wr.heap.size,0,none⟩ 1 1 (encF (B,C,D,c,d,i)) rfl ?qc1 ?qc2 ?qc3 ?qc4 ?qc5 ?qc6 ?_)
    case qc0=>exact za2 E.out G
    case qc1=>rfl
    case qc2=>first | exact cells6 _ _ | exact fun j u hu=>hu
    case qc3=>exact zc5 _
    case qc4=>have:=F.out;unfold maxLen;omega
    case qc5=>have:=F.out;omega
    case qc6=>first | exact r.size | (have:=I.size;omega)
    intro v' N l m A;have K:BL w N:=r.grown m r.size (fun k hk=>by
     rcases E.out.2 with⟨e,_⟩|⟨Z,P,V,e,W,_⟩
     ·rw[e]at hk;simp[Value.ownBlock]at hk
     ·rw[e]at hk;simp[Value.ownBlock]at hk;omega)
    have M:Hid (N.ownsRow w.heap.size 43 6 v' ((kept (inP lo hi) g n).length+1) (flatF (kept (inP lo hi) g n)++encF (B,C,D,c,d,i))):=l;clear l A m;go_wp2;go_roundw
    case rel=>exact ⟨n+1,by omega,by go_num,K,by rw[s.out,List.length_append,zb7];simpa [flatF] using M.out⟩
    case measure=>simp [intOf];omega
   ·have t:c<lo:=by omega
    have y:hi<d:=by omega
    have z:¬lo<=hi:=by omega
    have s:Hid ((kept (inP lo hi) g (n+1))=(kept (inP lo hi) g n)):=by
     show _=_;rw[p,if_neg (by simp[inP,t,y,z])]
    clear p G r;go_wp2;go_roundw
    case rel=>exact ⟨n+1,by omega,by go_num,I,by rw[s.out];exact E.out⟩
    case measure=>simp [intOf];omega
   ·have t:c<lo:=by omega
    have y:¬hi<d:=by omega
    have z:lo<=d:=by omega
    have s:Hid ((kept (inP lo hi) g (n+1))=(kept (inP lo hi) g n)++ [(B,C,D,c,d,i)]):=by
     show _=_;rw[p,if_pos (by simp[inP,t,y,z])]
    clear p
    go_wp2_with (at_builtin;refine wpList_append_own _ rfl _ _ 23 rfl w.heap.size 43 X (.agg #[.string ⟨#[]⟩,.string ⟨#[]⟩,.int .i64 0,.int .i64 0,.int .i64 0,.int .i64 0]) 6 64 Tryz.underlying23 Q R S O rfl (by decide) u7 (kept (inP lo hi) g n).length (flatF (kept (inP lo hi) g n)) rfl ?qc0 ⟨wr.heap.size,0,none⟩ 1 1 (encF (B,C,D,c,d,i)) rfl ?qc1 ?qc2 ?qc3 ?qc4 ?qc5 ?qc6 ?_)
    case qc0=>exact za2 E.out G
    case qc1=>rfl
    case qc2=>first | exact cells6 _ _ | exact fun j u hu=>hu
    case qc3=>exact zc5 _
    case qc4=>have:=F.out;unfold maxLen;omega
    case qc5=>have:=F.out;omega
    case qc6=>first | exact r.size | (have:=I.size;omega)
    intro v' N l m A;have K:BL w N:=r.grown m r.size (fun k hk=>by
     rcases E.out.2 with⟨e,_⟩|⟨Z,P,V,e,W,_⟩
     ·rw[e]at hk;simp[Value.ownBlock]at hk
     ·rw[e]at hk;simp[Value.ownBlock]at hk;omega)
    have M:Hid (N.ownsRow w.heap.size 43 6 v' ((kept (inP lo hi) g n).length+1) (flatF (kept (inP lo hi) g n)++encF (B,C,D,c,d,i))):=l;clear l A m;go_wp2;go_roundw
    case rel=>exact ⟨n+1,by omega,by go_num,K,by rw[s.out,List.length_append,zb7];simpa [flatF] using M.out⟩
    case measure=>simp [intOf];omega
   ·have t:c<lo:=by omega
    have y:¬hi<d:=by omega
    have z:¬lo<=d:=by omega
    have s:Hid ((kept (inP lo hi) g (n+1))=(kept (inP lo hi) g n)):=by
     show _=_;rw[p,if_neg (by simp[inP,t,y,z])]
    clear p G r;go_wp2;go_roundw
    case rel=>exact ⟨n+1,by omega,by go_num,I,by rw[s.out];exact E.out⟩
    case measure=>simp [intOf];omega
   ·have t:¬c<lo:=by omega
    have y:hi<d:=by omega
    have z:c<=hi:=by omega
    have s:Hid ((kept (inP lo hi) g (n+1))=(kept (inP lo hi) g n)++ [(B,C,D,c,d,i)]):=by
     show _=_;rw[p,if_pos (by simp[inP,t,y,z])]
    clear p
    go_wp2_with (at_builtin;refine wpList_append_own _ rfl _ _ 23 rfl w.heap.size 43 X (.agg #[.string ⟨#[]⟩,.string ⟨#[]⟩,.int .i64 0,.int .i64 0,.int .i64 0,.int .i64 0]) 6 64 Tryz.underlying23 Q R S O rfl (by decide) u7 (kept (inP lo hi) g n).length (flatF (kept (inP lo hi) g n)) rfl ?qc0 ⟨wr.heap.size,0,none⟩ 1 1 (encF (B,C,D,c,d,i)) rfl ?qc1 ?qc2 ?qc3 ?qc4 ?qc5 ?qc6 ?_)
    case qc0=>exact za2 E.out G
    case qc1=>rfl
    case qc2=>first | exact cells6 _ _ | exact fun j u hu=>hu
    case qc3=>exact zc5 _
    case qc4=>have:=F.out;unfold maxLen;omega
    case qc5=>have:=F.out;omega
    case qc6=>first | exact r.size | (have:=I.size;omega)
    intro v' N l m A;have K:BL w N:=r.grown m r.size (fun k hk=>by
     rcases E.out.2 with⟨e,_⟩|⟨Z,P,V,e,W,_⟩
     ·rw[e]at hk;simp[Value.ownBlock]at hk
     ·rw[e]at hk;simp[Value.ownBlock]at hk;omega)
    have M:Hid (N.ownsRow w.heap.size 43 6 v' ((kept (inP lo hi) g n).length+1) (flatF (kept (inP lo hi) g n)++encF (B,C,D,c,d,i))):=l;clear l A m;go_wp2;go_roundw
    case rel=>exact ⟨n+1,by omega,by go_num,K,by rw[s.out,List.length_append,zb7];simpa [flatF] using M.out⟩
    case measure=>simp [intOf];omega
   ·have t:¬c<lo:=by omega
    have y:hi<d:=by omega
    have z:¬c<=hi:=by omega
    have s:Hid ((kept (inP lo hi) g (n+1))=(kept (inP lo hi) g n)):=by
     show _=_;rw[p,if_neg (by simp[inP,t,y,z])]
    clear p G r;go_wp2;go_roundw
    case rel=>exact ⟨n+1,by omega,by go_num,I,by rw[s.out];exact E.out⟩
    case measure=>simp [intOf];omega
   ·have t:¬c<lo:=by omega
    have y:¬hi<d:=by omega
    have z:c<=d:=by omega
    have s:Hid ((kept (inP lo hi) g (n+1))=(kept (inP lo hi) g n)++ [(B,C,D,c,d,i)]):=by
     show _=_;rw[p,if_pos (by simp[inP,t,y,z])]
    clear p
    go_wp2_with (at_builtin;refine wpList_append_own _ rfl _ _ 23 rfl w.heap.size 43 X (.agg #[.string ⟨#[]⟩,.string ⟨#[]⟩,.int .i64 0,.int .i64 0,.int .i64 0,.int .i64 0]) 6 64 Tryz.underlying23 Q R S O rfl (by decide) u7 (kept (inP lo hi) g n).length (flatF (kept (inP lo hi) g n)) rfl ?qc0 ⟨wr.heap.size,0,none⟩ 1 1 (encF (B,C,D,c,d,i)) rfl ?qc1 ?qc2 ?qc3 ?qc4 ?qc5 ?qc6 ?_)
    case qc0=>exact za2 E.out G
    case qc1=>rfl
    case qc2=>first | exact cells6 _ _ | exact fun j u hu=>hu
    case qc3=>exact zc5 _
    case qc4=>have:=F.out;unfold maxLen;omega
    case qc5=>have:=F.out;omega
    case qc6=>first | exact r.size | (have:=I.size;omega)
    intro v' N l m A;have K:BL w N:=r.grown m r.size (fun k hk=>by
     rcases E.out.2 with⟨e,_⟩|⟨Z,P,V,e,W,_⟩
     ·rw[e]at hk;simp[Value.ownBlock]at hk
     ·rw[e]at hk;simp[Value.ownBlock]at hk;omega)
    have M:Hid (N.ownsRow w.heap.size 43 6 v' ((kept (inP lo hi) g n).length+1) (flatF (kept (inP lo hi) g n)++encF (B,C,D,c,d,i))):=l;clear l A m;go_wp2;go_roundw
    case rel=>exact ⟨n+1,by omega,by go_num,K,by rw[s.out,List.length_append,zb7];simpa [flatF] using M.out⟩
    case measure=>simp [intOf];omega
   ·have t:¬c<lo:=by omega
    have y:¬hi<d:=by omega
    have z:¬c<=d:=by omega
    have s:Hid ((kept (inP lo hi) g (n+1))=(kept (inP lo hi) g n)):=by
     show _=_;rw[p,if_neg (by simp[inP,t,y,z])]
    clear p G r;go_wp2;go_roundw
    case rel=>exact ⟨n+1,by omega,by go_num,I,by rw[s.out];exact E.out⟩
    case measure=>simp [intOf];omega
  ·obtain rfl:n=L:=by omega
   have ac:Hid (FlsAt wr u7 (g.filter (inP lo hi))):=by
    have h':=(zd3 E.out).1;rw[<-HX.out,zx6]at h';exact h'
   go_wp2;go_ret;exact⟨_,rfl,ac.out,I⟩
theorem zb4z (s:ByteArray) (w:World) (hs:s.size<4294967281) :
  Calls Tryz.prog 126 #[.string s] w fun e w'=>e= .returned (.tuple #[rowV (readO s.data.toList).1,.int .i64 (readO s.data.toList).2])/\BL w w':=by
 generalize hR:readO s.data.toList=R;have T:Hid (readO s.data.toList=R):=hR;clear hR;have ai:BL w (w.alloc (.cells #[.string ⟨#[]⟩,.int .i64 0,.int .i64 0] 112)):=alB _ _
 go_enter Tryz.func126,Tryz.ntmps126
 go_wp2_with fail
 refine(za4c s _ hs).mono ?_;rintro e r ⟨v,O,rfl,hT,k,A⟩;obtain⟨b,ao,rfl,N,j⟩:=hT;have G:r.cell? ⟨w.heap.size,0,none⟩=some (.string ⟨#[]⟩):=za0 A (by simp);have U:r.cell? ⟨w.heap.size,1,none⟩=some (.int .i64 0):=za0 A (by simp);have W:r.cell? ⟨w.heap.size,2,none⟩=some (.int .i64 0):=za0 A (by simp);have fz:∀o,r.frozen? ⟨w.heap.size,o,none⟩=false:=fun o=>by rw[A.frozen (p:=⟨w.heap.size,o,none⟩) (by simp)];simp
 have ac:BL w r:=trB ai A;have H:O.length=(words s.data.toList).length:=by rw[<-k,List.length_map]
 have m:=zl0 s.data.toList;by_cases X:O.length=3
 ·obtain⟨P,K,V,rfl⟩:∃P K V,O= [P,K,V]:=by
   match O,X with
   | [P,K,V],_=>exact ⟨P,K,V,rfl⟩
  simp only[List.map_cons,List.map_nil]at k;have c0:r.cell? ⟨b,0,none⟩=some (.string P):=j 0 (by simp);have c1:r.cell? ⟨b,1,none⟩=some (.string K):=j 1 (by simp);have c2:r.cell? ⟨b,2,none⟩=some (.string V):=j 2 (by simp);have aj:K.size<=maxLen:=by
   have:=m K.data.toList (by rw[<-k];simp);rw[za3,za3]at this;unfold maxLen;omega
  have ak:V.size<=maxLen:=by
   have:=m V.data.toList (by rw[<-k];simp);rw[za3,za3]at this;unfold maxLen;omega
  have al:P.size<=maxLen:=by
   have:=m P.data.toList (by rw[<-k];simp);rw[za3,za3]at this;unfold maxLen;omega
  have B:=za3h k.symm;rw[zd8]at B;have ad:=T.out.symm.trans B;clear T B k H m j X;simp only[List.length_cons,List.length_nil,Nat.zero_add,Nat.reduceAdd]at N ⊢;have HE:Hid (R=match numO K.data.toList,numO V.data.toList with
   | some a,some b=>if rowE (P,a,b)=0 then ((P,a,b),0) else ((bytesOf [],0,0),rowE (P,a,b))
   | _,_=>((bytesOf [],0,0),1)):=ad
  clear ad
  go_wp2_with fail
  refine(zb4k b 1 _ K V r c1 c2 aj ak).mono ?_;rintro e f ⟨F,z⟩;have ae:BL w f:=trB ac z;have C:=za0 z G;have I:=za0 z U;have J:=za0 z W;have d0:=za0 z c0;have af:w.heap.size<r.heap.size:=zb8 G;have Y:∀o,f.frozen? ⟨w.heap.size,o,none⟩=false:=fun o=>by rw[z.frozen (p:=⟨w.heap.size,o,none⟩) af];exact fz o
  have ag:w.heap.size<f.heap.size:=zb8 C;clear G U W fz c0 c1 c2 af;have i:=HE.out;clear HE;generalize numO K.data.toList=nk at F i;generalize numO V.data.toList=S at F i;by_cases n:∃x y,nk=some x/\S=some y
  ·obtain⟨x,y,rfl,rfl⟩:=n;obtain⟨g,c,rfl,k0,k1⟩:=F;dsimp only at i;have t:BL f (f.alloc (.cells #[.string P,.int .i64 x,.int .i64 y] 112)).drew:=(alB _ _).drew;have ah:BL w (f.alloc (.cells #[.string P,.int .i64 x,.int .i64 y] 112)).drew:=trB ae t;have q:=zw2 (P,x,y) ((f.alloc (.cells #[.string P,.int .i64 x,.int .i64 y] 112)).drew) al;dsimp only at q;have Z:=za0 t C;have q1:=za0 t I;have q2:=za0 t J;have r0:(f.alloc (.cells #[.string P,.int .i64 x,.int .i64 y] 112)).drew.cell? ⟨f.heap.size,0,none⟩=some (.string P):=by simp
   have r1:(f.alloc (.cells #[.string P,.int .i64 x,.int .i64 y] 112)).drew.cell? ⟨f.heap.size,1,none⟩=some (.int .i64 x):=by simp
   have r2:(f.alloc (.cells #[.string P,.int .i64 x,.int .i64 y] 112)).drew.cell? ⟨f.heap.size,2,none⟩=some (.int .i64 y):=by simp
   have u:BL f (f.alloc (.cells #[.string ⟨#[]⟩,.int .i64 0,.int .i64 0] 112)):=alB _ _;have j0:=za0 u k0;have j1:=za0 u k1;have j2:=za0 u d0;have l0:=za0 u.drew k0;have l1:=za0 u.drew k1;have l2:=za0 u.drew d0;have m0:=za0 (Below.refl f.heap.size f).drew k0;have m1:=za0 (Below.refl f.heap.size f).drew k1;have m2:=za0 (Below.refl f.heap.size f).drew d0;by_cases D:rowE (P,x,y)=0
   ·rw[if_pos D]at i;subst i;rw[D]at q;clear D;go_wp2
    go_region
    all_goals go_wp2_with fail
    refine q.mono ?_;rintro e Q ⟨rfl,d⟩;have g0:=za0 d Z;have g1:=za0 d q1;have g2:=za0 d q2;have u0:=za0 d r0;have u1:=za0 d r1;have u2:=za0 d r2;have M:BL w Q:=trB ah d;have f5:∀o,Q.frozen? ⟨w.heap.size,o,none⟩=false:=fun o=>by
     rw[d.frozen (p:=⟨w.heap.size,o,none⟩) (by simp;omega),t.frozen (p:=⟨w.heap.size,o,none⟩) ag];exact Y o
    clear q Z q1 q2 r0 r1 r2 C I J Y;go_wp2;refine bodyPost_ret (v:=.tuple #[.agg #[.string P,.int .i64 x,.int .i64 y],.int .i64 0]) (by simp[results,Tryz.results126,go_sem,g0,g1,g2]) rfl ⟨rfl,?_⟩;exact((M.setCell (by simp) _).setCell (by simp) _).setCell (by simp) _
   ·rw[if_neg D]at i;generalize rowE (P,x,y)=E at D q i;subst i;have hE:(0:Int)<(E:Int):=by omega
    clear D;go_wp2
    go_region
    all_goals go_wp2_with fail
    refine q.mono ?_;rintro e Q ⟨rfl,d⟩;have g0:=za0 d Z;have g1:=za0 d q1;have g2:=za0 d q2;have M:BL w Q:=trB ah d;have f5:∀o,Q.frozen? ⟨w.heap.size,o,none⟩=false:=fun o=>by
     rw[d.frozen (p:=⟨w.heap.size,o,none⟩) (by simp;omega),t.frozen (p:=⟨w.heap.size,o,none⟩) ag];exact Y o
    have s0:=za1 g0;have s1:=za1 g1;have s2:=za1 g2;clear q Z q1 q2 r0 r1 r2 C I J Y;go_wp2;exact bodyPost_ret (v:=.tuple #[.agg #[.string ⟨#[]⟩,.int .i64 0,.int .i64 0],.int .i64 E]) (by simp[results,Tryz.results126,go_sem,g0,g1,g2]) rfl ⟨rfl,M⟩
  ·have aa:e= .returned (.tuple #[.slice none 0 0,.bool false]):=by
    cases nk with
    | none=>cases S<;>exact F
    | some x =>
     cases S with
     | none=>exact F
     | some y=>exact absurd ⟨x,y,rfl,rfl⟩ n
   have ab:R=((bytesOf [],0,0),1):=by
    cases nk with
    | none=>cases S<;>exact i
    | some x =>
     cases S with
     | none=>exact i
     | some y=>exact absurd ⟨x,y,rfl,rfl⟩ n
   subst aa ab;clear i F n;have s0:=za1 C;have s1:=za1 I;have s2:=za1 J;go_wp2;exact bodyPost_ret (v:=.tuple #[.agg #[.string ⟨#[]⟩,.int .i64 0,.int .i64 0],.int .i64 1]) (by simp[results,Tryz.results126,go_sem,C,I,J]) rfl ⟨rfl,ae⟩
 ·have B:=za3g (l:=s.data.toList) (by omega);have am:=T.out.symm.trans B;subst am;generalize O.length=L at X N ⊢;have an:¬(L:Int)=3:=by omega
  clear B k H m j T X;have s0:=za1 G;have s1:=za1 U;have s2:=za1 W;go_wp2;exact bodyPost_ret (v:=.tuple #[.agg #[.string ⟨#[]⟩,.int .i64 0,.int .i64 0],.int .i64 1]) (by simp[results,Tryz.results126,go_sem,G,U,W]) rfl ⟨rfl,ac⟩
theorem zb5a (xs O:List Rw) (x:Rw) (k:Nat) (s:O=sortR xs) (z:k<=O.length)
  (g:∀j (h:j<O.length),k<=j->ltOf cfR x O[j]=true) (l:∀(h:k-1<O.length),0<k->ltOf cfR x O[k-1]=false) :
  O.take k++x :: O.drop k=sortR (xs++ [x]):=by
 have m:O.Pairwise fun x y=>(!(ltOf cfR) y x)=true:=by rw[s];exact zp7 xs
 have n:=List.pairwise_iff_getElem.1 m;refine List.Perm.eq_of_pairwise (le:=fun x y=>(!(ltOf cfR) y x)=true) (fun a b _ _ g l=>?_) ?_ (zp7 _) ?_
 ·simp only[Bool.not_eq_true']at g l;exact totR a b l g
 ·have c:=m;rw[<-List.take_append_drop k O,List.pairwise_append]at c;rw[List.pairwise_append];refine⟨c.1,?_,?_⟩
  ·rw[List.pairwise_cons];refine⟨fun b d=>?_,c.2.1⟩;obtain⟨j,u,rfl⟩:=List.mem_iff_getElem.1 d;rw[List.getElem_drop];have o:k+j<O.length:=by rw[List.length_drop]at u;omega
   have h:=g (k+j) o (by omega);cases f:ltOf cfR O[k+j] x
   ·rfl
   ·have:=swoR.trans _ _ _ h f;rw[swoR.irrefl]at this;cases this
  ·intro a r b d;rw[List.mem_cons]at d;rcases d with rfl | d
   ·obtain⟨i,v,rfl⟩:=List.mem_iff_getElem.1 r;rw[List.getElem_take];rw[List.length_take]at v;have p:=l (by omega) (by omega);rcases Nat.lt_or_ge i (k-1) with f | f
    ·have:=n i (k-1) (by omega) (by omega) f;simp only[Bool.not_eq_true']at this ⊢;exact swoR.ntrans _ _ _ p this
    ·obtain rfl:i=k-1:=by omega
     simp only[Bool.not_eq_true'];exact p
   ·exact c.2.2 a r b d
 ·have q:(O.take k++x :: O.drop k).Perm (x :: (O.take k++O.drop k)):=List.perm_middle;rw[List.take_append_drop]at q;refine q.trans ?_;have t:(x :: O).Perm (x :: xs):=by rw[s];exact(zd7 xs).cons x
  refine t.trans ?_;refine List.Perm.trans ?_ (zd7 _).symm;exact(List.perm_append_singleton x xs).symm
theorem zb5b:sortR []= []:=by simp[sortR]
theorem za4p {O:List Rw} {k j:Nat} {u:Value} (h:(flatR (O.take k))[j]? =some u):(flatR O)[j]? =some u:=by
 have e:flatR O=flatR (O.take k)++flatR (O.drop k):=by rw[<-zc3,List.take_append_drop]
 rw[e];rcases Nat.lt_or_ge j (flatR (O.take k)).length with b | b
 ·rw[List.getElem?_append_left b];exact h
 ·rw[List.getElem?_eq_none b]at h;cases h
theorem zx7 {O:List Rw} {k j:Nat} {u:Value} (h:(flatR (O.drop k))[j]? =some u):(flatR O)[k*3+j]? =some u:=by
 have c:k<=O.length:=by
  rcases Nat.lt_or_ge O.length k with b | b
  ·rw[List.drop_of_length_le (by omega)]at h;simp[flatR]at h
  ·exact b
 have e:flatR O=flatR (O.take k)++flatR (O.drop k):=by rw[<-zc3,List.take_append_drop]
 have d:(flatR (O.take k)).length=k*3:=by rw[zb9,List.length_take,Nat.min_eq_left c]
 rw[e,List.getElem?_append_right (by omega),d,Nat.add_sub_cancel_left];exact h
theorem zb3 {w:World} {B:Nat} {e:TypeId} {s:Nat} {v:Value} {n b:Nat} {xs c:List Value} (h:w.ownsRow B e s v n xs) (d:n=b) (f:xs=c):w.ownsRow B e s v b c:=by subst d;subst f;exact h
theorem zx8 (x:Rw) (xs:List Rw):flatR (x :: xs)=encR x++flatR xs:=by simp[flatR]
theorem zd4 {w:World} {base:Nat} {e:TypeId} {c:Nat} {v:Value} {n:Nat} {xs:List Value} (h:w.ownsRow base e c v n xs) {k:Nat} (b:v.ownBlock=some k):base<=k:=by
 rcases h.2 with⟨e,_⟩|⟨i,d,f,e,g,_⟩
 ·rw[e]at b;simp[Value.ownBlock]at b
 ·rw[e]at b;simp[Value.ownBlock]at b;omega
theorem zb5c (b o be:Nat) (xs:List Rw) (w:World) (hx:RowCells w b o xs) (hl:xs.length<=20000) :
  Calls Tryz.prog 72 #[.slice (some ⟨b,o,none⟩) xs.length be] w fun e w'=> ∃v',e= .returned v'/\RowsAt w' v' (sortR xs)/\BL w w':=by
 obtain⟨i0,P,Q,R,B⟩:=Tryz.rowInfo;generalize hL:xs.length=L at hl ⊢;have HX:Hid (xs.length=L):=hL;clear hL
 go_enter Tryz.func72,Tryz.ntmps72
 go_wp2
 go_loopw [3,4] (fun out k wr=> ∃n:Nat,n<=L/\k= .int .i64 n/\BL w wr/\wr.ownsRow w.heap.size 112 3 out n (flatR (sortR (xs.take n)))) (fun _ k _=>L-(intOf k).toNat)
 case atStart=>exact ⟨0,by omega,rfl,Below.refl _ _,by simp[zb5b,flatR];exact World.ownsRow_nil _ _ _ _⟩
 case round =>
  obtain⟨n,hn,rfl,Z,H⟩:=hrel;by_cases a2:n<L
  ·have ao:n<xs.length:=by rw[HX.out];exact a2
   obtain⟨h1,h2,h3⟩:=hx.below Z n ao;have hi:(n:Int)<(L:Int):=by omega
   have aw:xs.take (n+1)=xs.take n++ [xs[n]]:=by rw[List.take_append_getElem ao]
   have aa:(sortR (xs.take n)).length=n:=by rw[zo4,List.length_take];omega
   have ai:=fun k=>zb5a (xs.take n) (sortR (xs.take n)) xs[n] k rfl;rw[<-aw]at ai;have p:Hid (∀k,k<=(sortR (xs.take n)).length->(∀j (h:j<(sortR (xs.take n)).length),k<=j->ltOf cfR xs[n] (sortR (xs.take n))[j]=true)->(∀(h:k-1<(sortR (xs.take n)).length),0<k->ltOf cfR xs[n] (sortR (xs.take n))[k-1]=false)->(sortR (xs.take n)).take k++xs[n] :: (sortR (xs.take n)).drop k=sortR (xs.take (n+1))):=ai;clear ai aw;generalize xs[n]=x at h1 h2 h3 p;generalize sortR (xs.take n)=O at H aa p;generalize az:sortR (xs.take (n+1))=O' at p;have aj:Hid (sortR (xs.take (n+1))=O'):=az;clear az;obtain⟨c,d,f⟩:=x;obtain⟨bb,bc⟩:=zo3 H;have OW:Hid (wr.ownsRow w.heap.size 112 3 u3 n (flatR O)):=H;clear H hx;rcases bc with⟨rfl,rfl⟩|⟨g,cp,rfl,au⟩
   ·have N0:Hid (n=0):=by simpa [Hid] using aa.symm
    have a3:O'= [(c,d,f)]:=by
     have:=p.out 0 (by simp) (by intro j h;simp at h) (by intro h;simp at h);simpa using this.symm
    subst a3;clear p aa OW;have ak:BL wr (wr.alloc (.cells #[.string c,.int .i64 d,.int .i64 f] 112)):=alB _ _;have ap:BL w (wr.alloc (.cells #[.string c,.int .i64 d,.int .i64 f] 112)):=Z.alloc Z.size _;have n0:n=0:=N0.out;have Y:wr.cell? ⟨b,o,none⟩=some (.string c):=by rw[n0]at h1;simpa using h1
    have e2:wr.cell? ⟨b,o+1,none⟩=some (.int .i64 d):=by rw[n0]at h2;simpa using h2
    have e3:wr.cell? ⟨b,o+2,none⟩=some (.int .i64 f):=by rw[n0]at h3;simpa using h3
    clear n0 h1 h2 h3;go_wp2;refine wp_loop_rounds 1 ?_;rw[rounds_succ]
    go_wp2_with (first
     | (at_builtin;refine zp9 rfl _ _ 44 rfl _ rfl rfl (fun ty W=>zp8 none 0 0 ty W (Nat.le_refl _)) ?_)
     | (at_builtin;refine wpList_append_own _ rfl _ _ 44 rfl w.heap.size 112 i0 (.agg #[.string ⟨#[]⟩,.int .i64 0,.int .i64 0]) 3 32 Tryz.underlying44 P Q R B rfl (by decide) (.slice none 0 0) 0 [] rfl ?qc0 ⟨wr.heap.size,0,none⟩ 1 1 (encR (c,d,f)) rfl ?qc1 ?qc2 ?qc3 ?qc4 ?qc5 ?qc6 ?_))
    case qc0=>exact World.ownsRow_nil _ _ _ _
    case qc1=>rfl
    case qc2 =>
     intro j u v;rw[Addr.add_lit,Nat.zero_add];exact zf6 wr c d f j u v
    case qc3=>exact zc6 _
    case qc4=>unfold maxLen;omega
    case qc5=>omega
    case qc6=>exact ap.size
    intro v' w4 T an a0;have a4:BL w w4:=ap.grown an ap.size (fun k G=>by simp[Value.ownBlock]at G);obtain⟨p4,c4,rfl⟩:∃p4 c4,v'= .slice p4 1 c4:=by
     rcases T.2 with⟨_,e⟩|⟨g',a1,bd,e,_⟩
     ·omega
     ·exact⟨_,_,e⟩
    have a5:=za3j T;have a6:Hid (w4.ownsRow w.heap.size 112 3 (.slice p4 1 c4) (0+1) ([]++encR (c,d,f))):=T;clear T a0 an
    go_wp2_with (at_builtin;refine zp9 rfl _ _ 44 rfl _ rfl rfl (fun ty W=>zp8 p4 1 c4 ty W a5) ?_)
    go_roundw
    case rel=>exact ⟨n+1,by omega,by rw[N0.out];go_num,a4,by rw[aj.out,N0.out,zi2];exact a6.out⟩
    case measure=>have:=N0.out;simp[intOf];omega
   ·clear bb;have ax:O.length<=cp:=za3j OW.out;rw[aa]at ax ⊢;have bh:g<wr.heap.size:=by
     rcases Nat.lt_or_ge 0 n with h' | h'
     ·exact zb8 (au 0 (by omega)).1
     ·rcases OW.out.2 with⟨e,_⟩|⟨g',a1,bd,e,_,hg,_⟩
      ·cases e
      ·injection e with Y e2 e3;injection Y with Y;injection Y with Y;subst Y;rcases Nat.lt_or_ge g wr.heap.size with av | av
       ·exact av
       ·rw[Array.getElem?_eq_none av]at hg;cases hg
    have OC:Hid (RowCells wr g 0 O):=au;have S:Hid (O.length=n):=aa;have bf:n<=cp:=by omega
    clear au aa ax;generalize wr=W0 at *;go_wp2
    go_loopw [5] (fun at_ wi=> ∃k:Nat,k<=n/\at_= .int .i64 k/\BL W0 wi/\∀j (h:j<O.length),k<=j->ltOf cfR (c,d,f) O[j]=true) (fun at_ _=>(intOf at_).toNat)
    case atStart=>exact ⟨n,by omega,rfl,Below.refl _ _,fun j h h'=>absurd h (by rw[S.out];omega)⟩
    case round =>
     obtain⟨k,G,rfl,C,aq⟩:=hrel;have HA:Hid (∀j (h:j<O.length),k<=j->ltOf cfR (c,d,f) O[j]=true):=aq;clear aq;have d1:=za0 C h1;have d2:=za0 C h2;have d3:=za0 C h3;by_cases bi:0<k
     ·obtain⟨m,rfl⟩:∃m,k=m+1:=⟨k-1,by omega⟩;have a7:m<O.length:=by rw[S.out];omega
      obtain⟨c1,c2,c3⟩:=OC.out m a7;have p1:=za0 C c1;have p2:=za0 C c2;have p3:=za0 C c3;clear c1 c2 c3;have F:=fun W=>za3w (c,d,f) O[m] W;generalize hy:O[m]=y at p1 p2 p3 F;obtain⟨yp,yk,yv⟩:=y;dsimp only at p1 p2 p3 F;simp only[Nat.zero_add]at p1 p2 p3;have HY:Hid (O[m]=(yp,yk,yv)):=hy;clear hy;have hm:Tryz.prog.follows .mixedOrders=true:=by kernel_rfl
      have bj:(0:Int)<(m:Int)+1:=by omega
      have bk:(m:Int)<(n:Int):=by omega
      have bl:(0:Int)<=(m:Int):=by omega
      have bm:IntKind.i64.wrap (m:Int)=(m:Int):=IntWalk.i64_in _ (by omega);go_wp2;refine za1s 9 hm (by kernel_rfl) ?_;simp only[List.take_succ_cons,List.take_zero,List.drop_succ_cons,List.drop_zero]
      still_step
      still_step
      still_step
      still_step
      still_step
      still_step
      still_step
      still_step
      still_step
      refine wpStill_nil ?_;cases ah:ltOf cfR (c,d,f) (yp,yk,yv)
      ·rw[ah]at F;have a8:Hid (ltOf cfR (c,d,f) (yp,yk,yv)=false):=ah;clear ah d1 d2 d3
       go_wp2_with (first
        | (go_at_call 121;refine(F _).mono ?_;rintro e l ⟨rfl,ar⟩;have r:BL W0 l:=C.drew.trans (ar.mono C.size);have U:=p.out (m+1) (by rw[S.out];omega) (HA.out) (fun h _=>by simp only[Nat.add_sub_cancel];rw[HY.out];exact a8.out);have al:Hid (O.take (m+1)++(c,d,f) :: O.drop (m+1)=O'):=U;have CT:Hid (RowCells l g 0 O):=OC.out.below r;have Y:=za0 r h1;have e2:=za0 r h2;have e3:=za0 r h3;clear U p OC)
        | (at_builtin;refine wpList_append_own _ rfl _ _ 44 rfl l.heap.size 112 i0 (.agg #[.string ⟨#[]⟩,.int .i64 0,.int .i64 0]) 3 32 Tryz.underlying44 P Q R B rfl (by decide) (.slice none 0 0) 0 [] rfl ?qc0 ⟨g,0,none⟩ (m+1) cp (flatR (O.take (m+1))) rfl ?qc1 ?qc2 ?qc3 ?qc4 ?qc5 ?qc6 ?_))
       case qc0=>exact World.ownsRow_nil _ _ _ _
       case qc1=>rw [zb9,List.length_take,S.out,Nat.min_eq_left (by omega)]
       case qc2 =>
        intro j u v;rw[Addr.add_lit,Nat.zero_add];have:=ze4 CT.out j u (za4p v);simpa using this
       case qc3=>exact ze3 _
       case qc4=>unfold maxLen;omega
       case qc5=>omega
       case qc6=>exact Nat.le_refl _
       intro v1 I J D ab;have A:BL l I:=(Below.refl _ _).grown D (Nat.le_refl _) (fun k G=>by simp[Value.ownBlock]at G);have ad:Hid (I.ownsRow l.heap.size 112 3 v1 (0+(m+1)) ([]++flatR (O.take (m+1)))):=zb3 J (by omega) (by simp);clear J ab D;have g1:=za0 A Y;have g2:=za0 A e2;have g3:=za0 A e3;have ak:BL I (I.alloc (.cells #[.string c,.int .i64 d,.int .i64 f] 112)):=alB _ _;have V:BL l (I.alloc (.cells #[.string c,.int .i64 d,.int .i64 f] 112)):=A.alloc A.size _
       go_wp2_with (at_builtin;refine wpList_append_own _ rfl _ _ 44 rfl l.heap.size 112 i0 (.agg #[.string ⟨#[]⟩,.int .i64 0,.int .i64 0]) 3 32 Tryz.underlying44 P Q R B rfl (by decide) v1 (0+(m+1)) ([]++flatR (O.take (m+1))) rfl ?qc0 ⟨I.heap.size,0,none⟩ 1 1 (encR (c,d,f)) rfl ?qc1 ?qc2 ?qc3 ?qc4 ?qc5 ?qc6 ?_)
       case qc0=>exact za2 ad.out ak
       case qc1=>rfl
       case qc2 =>
        intro j u v;rw[Addr.add_lit,Nat.zero_add];exact zf6 I c d f j u v
       case qc3=>exact zc6 _
       case qc4=>unfold maxLen;omega
       case qc5=>omega
       case qc6=>exact V.size
       intro v2 w2 K E ac;have z:BL l w2:=V.grown E V.size (fun k G=>zd4 ad.out G);have X:Hid (w2.ownsRow l.heap.size 112 3 v2 (0+(m+1)+1) ([]++flatR (O.take (m+1))++encR (c,d,f))):=zb3 K (by omega) (by simp[flatR]);clear K ac E;have z1:((m+1:Nat):Int)<=(n:Int):=by omega
       have z2:((m+1:Nat):Int)<=(cp:Int):=by omega
       have am:Hid (RowCells w2 g 0 O):=CT.out.below z;rcases Nat.lt_or_ge (m+1) cp with ay | ay
       ·have bn:¬cp=m+1:=by omega
        go_wp2_with (at_builtin;refine wpList_append_own _ rfl _ _ 44 rfl l.heap.size 112 i0 (.agg #[.string ⟨#[]⟩,.int .i64 0,.int .i64 0]) 3 32 Tryz.underlying44 P Q R B rfl (by decide) v2 (0+(m+1)+1) ([]++flatR (O.take (m+1))++encR (c,d,f)) rfl ?qc0 _ _ _ (flatR (O.drop (m+1))) rfl ?qc1 ?qc2 ?qc3 ?qc4 ?qc5 ?qc6 ?_)
        case qc0=>exact X.out
        case qc1=>have:=S.out;rw[zb9,List.length_drop];omega
        case qc2 =>
         intro j u v;rw[Addr.add_lit];have:=ze4 am.out _ u (zx7 v)
         first
          | exact absurd v (by rw[List.drop_of_length_le (by have:=S.out;omega)];simp[flatR])
          | simpa using this
        case qc3=>exact ze3 _
        case qc4=>unfold maxLen;omega
        case qc5=>omega
        case qc6=>exact z.size
        intro v3 M t i N;have ae:BL l M:=z.grown i z.size (fun k G=>zd4 X.out G);have af:BL w M:=by
         have q:=trB r ae;exact(trB Z q)
        have s:M.ownsRow w.heap.size 112 3 v3 (n+1) (flatR O'):=by
         have q:=t.mono (Nat.le_trans Z.size r.size);rw[<-al.out,zc3,zx8];exact zb3 q (by omega) (by simp[flatR])
        have ag:Hid (M.ownsRow w.heap.size 112 3 v3 (n+1) (flatR O')):=s;clear s t N i;go_wp2;go_roundw
        case rel=>exact ⟨n+1,by omega,by go_num,af,by rw[aj.out];exact ag.out⟩
        case measure=>simp [intOf];omega
       ·have bg:cp=m+1:=by omega
        clear ay
        go_wp2_with (at_builtin;refine wpList_append_own _ rfl _ _ 44 rfl l.heap.size 112 i0 (.agg #[.string ⟨#[]⟩,.int .i64 0,.int .i64 0]) 3 32 Tryz.underlying44 P Q R B rfl (by decide) v2 (0+(m+1)+1) ([]++flatR (O.take (m+1))++encR (c,d,f)) rfl ?qc0 _ _ _ (flatR (O.drop (m+1))) rfl ?qc1 ?qc2 ?qc3 ?qc4 ?qc5 ?qc6 ?_)
        case qc0=>exact X.out
        case qc1=>have:=S.out;rw[zb9,List.length_drop];omega
        case qc2 =>
         intro j u v;rw[Addr.add_lit];have:=ze4 am.out _ u (zx7 v)
         first
          | exact absurd v (by rw[List.drop_of_length_le (by have:=S.out;omega)];simp[flatR])
          | simpa using this
        case qc3=>exact ze3 _
        case qc4=>unfold maxLen;omega
        case qc5=>omega
        case qc6=>exact z.size
        intro v3 M t i N;have ae:BL l M:=z.grown i z.size (fun k G=>zd4 X.out G);have af:BL w M:=by
         have q:=trB r ae;exact(trB Z q)
        have s:M.ownsRow w.heap.size 112 3 v3 (n+1) (flatR O'):=by
         have q:=t.mono (Nat.le_trans Z.size r.size);rw[<-al.out,zc3,zx8];exact zb3 q (by omega) (by simp[flatR])
        have ag:Hid (M.ownsRow w.heap.size 112 3 v3 (n+1) (flatR O')):=s;clear s t N i;go_wp2;go_roundw
        case rel=>exact ⟨n+1,by omega,by go_num,af,by rw[aj.out];exact ag.out⟩
        case measure=>simp [intOf];omega
      ·rw[ah]at F
       go_wp2_with (go_at_call 121;refine(F _).mono ?_;rintro e w5 ⟨rfl,ar⟩)
       have a9:BL W0 w5:=C.drew.trans (ar.mono C.size);go_roundw
       case rel=>exact ⟨m,by omega,by go_num,a9,fun j h v=>by
        rcases Nat.lt_or_ge m j with h' | h'
        ·exact HA.out j h (by omega)
        ·obtain rfl:j=m:=by omega
         rw[HY.out];exact ah⟩
       case measure=>simp [intOf]
     ·obtain rfl:k=0:=by omega
      clear d1 d2 d3;generalize wr=l at *;have r:BL W0 l:=C;have U:=p.out (0) (by rw[S.out];omega) (fun j h _=>HA.out j h (Nat.zero_le _)) (fun _ h=>absurd h (Nat.lt_irrefl _));have al:Hid (O.take (0)++(c,d,f) :: O.drop (0)=O'):=U;have CT:Hid (RowCells l g 0 O):=OC.out.below r;have Y:=za0 r h1;have e2:=za0 r h2;have e3:=za0 r h3;clear U p OC
      go_wp2_with (at_builtin;refine wpList_append_own _ rfl _ _ 44 rfl l.heap.size 112 i0 (.agg #[.string ⟨#[]⟩,.int .i64 0,.int .i64 0]) 3 32 Tryz.underlying44 P Q R B rfl (by decide) (.slice none 0 0) 0 [] rfl ?qc0 ⟨g,0,none⟩ (0) cp (flatR (O.take (0))) rfl ?qc1 ?qc2 ?qc3 ?qc4 ?qc5 ?qc6 ?_)
      case qc0=>exact World.ownsRow_nil _ _ _ _
      case qc1=>rw [zb9,List.length_take,S.out,Nat.min_eq_left (by omega)]
      case qc2 =>
       intro j u v;rw[Addr.add_lit,Nat.zero_add];have:=ze4 CT.out j u (za4p v);simpa using this
      case qc3=>exact ze3 _
      case qc4=>unfold maxLen;omega
      case qc5=>omega
      case qc6=>exact Nat.le_refl _
      intro v1 I J D ab;have A:BL l I:=(Below.refl _ _).grown D (Nat.le_refl _) (fun k G=>by simp[Value.ownBlock]at G);have ad:Hid (I.ownsRow l.heap.size 112 3 v1 (0+(0)) ([]++flatR (O.take (0)))):=zb3 J (by omega) (by simp);clear J ab D;have g1:=za0 A Y;have g2:=za0 A e2;have g3:=za0 A e3;have ak:BL I (I.alloc (.cells #[.string c,.int .i64 d,.int .i64 f] 112)):=alB _ _;have V:BL l (I.alloc (.cells #[.string c,.int .i64 d,.int .i64 f] 112)):=A.alloc A.size _
      go_wp2_with (at_builtin;refine wpList_append_own _ rfl _ _ 44 rfl l.heap.size 112 i0 (.agg #[.string ⟨#[]⟩,.int .i64 0,.int .i64 0]) 3 32 Tryz.underlying44 P Q R B rfl (by decide) v1 (0+(0)) ([]++flatR (O.take (0))) rfl ?qc0 ⟨I.heap.size,0,none⟩ 1 1 (encR (c,d,f)) rfl ?qc1 ?qc2 ?qc3 ?qc4 ?qc5 ?qc6 ?_)
      case qc0=>exact za2 ad.out ak
      case qc1=>rfl
      case qc2 =>
       intro j u v;rw[Addr.add_lit,Nat.zero_add];exact zf6 I c d f j u v
      case qc3=>exact zc6 _
      case qc4=>unfold maxLen;omega
      case qc5=>omega
      case qc6=>exact V.size
      intro v2 w2 K E ac;have z:BL l w2:=V.grown E V.size (fun k G=>zd4 ad.out G);have X:Hid (w2.ownsRow l.heap.size 112 3 v2 (0+(0)+1) ([]++flatR (O.take (0))++encR (c,d,f))):=zb3 K (by omega) (by simp[flatR]);clear K ac E;have z1:((0:Nat):Int)<=(n:Int):=by omega
      have z2:((0:Nat):Int)<=(cp:Int):=by omega
      have am:Hid (RowCells w2 g 0 O):=CT.out.below z
      go_wp2_with (at_builtin;refine wpList_append_own _ rfl _ _ 44 rfl l.heap.size 112 i0 (.agg #[.string ⟨#[]⟩,.int .i64 0,.int .i64 0]) 3 32 Tryz.underlying44 P Q R B rfl (by decide) v2 (0+(0)+1) ([]++flatR (O.take (0))++encR (c,d,f)) rfl ?qc0 _ _ _ (flatR (O.drop (0))) rfl ?qc1 ?qc2 ?qc3 ?qc4 ?qc5 ?qc6 ?_)
      case qc0=>exact X.out
      case qc1=>have:=S.out;rw[zb9,List.length_drop];omega
      case qc2 =>
       intro j u v;rw[Addr.add_lit];have:=ze4 am.out _ u (zx7 v)
       first
        | exact absurd v (by rw[List.drop_of_length_le (by have:=S.out;omega)];simp[flatR])
        | simpa using this
      case qc3=>exact ze3 _
      case qc4=>unfold maxLen;omega
      case qc5=>omega
      case qc6=>exact z.size
      intro v3 M t i N;have ae:BL l M:=z.grown i z.size (fun k G=>zd4 X.out G);have af:BL w M:=by
       have q:=trB r ae;exact(trB Z q)
      have s:M.ownsRow w.heap.size 112 3 v3 (n+1) (flatR O'):=by
       have q:=t.mono (Nat.le_trans Z.size r.size);rw[<-al.out,zc3,zx8];exact zb3 q (by omega) (by simp[flatR])
      have ag:Hid (M.ownsRow w.heap.size 112 3 v3 (n+1) (flatR O')):=s;clear s t N i;go_wp2;go_roundw
      case rel=>exact ⟨n+1,by omega,by go_num,af,by rw[aj.out];exact ag.out⟩
      case measure=>simp [intOf];omega
  ·have ba:n=L:=by omega
   subst ba;have ht:xs.take n=xs:=List.take_of_length_le (by rw[HX.out];omega);rw[ht]at H;have OW:Hid (wr.ownsRow w.heap.size 112 3 u3 n (flatR (sortR xs))):=H;clear H ht;go_wp2;go_ret;exact⟨u3,rfl,(ze5 OW.out).1,Z⟩
end Go.Proofs.YtgckdomafbnmkaaGreatDoor
namespace Go.Proofs.YtgckdomafbnmkaaGreatDoor
open Go.RowKit Go.Extern.Stop Go.Stop Go.Extern
theorem Tryz.isTypeOf (v:Value) (w:World):(Extern.ReflectliteType.typeOf #[.iface 325 v]).run Tryz.prog w= .ok (.iface 254 (.agg #[.pointer (some ⟨21,325,none⟩)])) w:=by kernel_rfl
def compEntry : Array Value → Sem Value := Extern.ReflectliteType.method fun t => do Extern.Rtype.noPackHeld "Comparable" t; pure (.bool (← typeInfo t).comparable)
theorem Tryz.isComparable (w:World):(compEntry #[.agg #[.pointer (some ⟨21,325,none⟩)]]).run Tryz.prog w= .ok (.bool true) w:=by kernel_rfl
theorem Tryz.isMethodComparable (v : Value) (w : World) : (Go.method 462 254 v "Comparable").run Tryz.prog w = .ok (275, v) w := by kernel_rfl
theorem Tryz.isComp:(Tryz.prog.info? 325).map (·.comparable)=some true:=by kernel_rfl
theorem Tryz.isSize:(Tryz.prog.info? 327).map (·.size)=some 1:=by kernel_rfl
theorem Tryz.noIsE (v:Value) (b:TypeId) (w:World):(Instr.typeAssert (.iface 325 v) b 265 true).run Tryz.prog w= .ok (.tuple #[.nilIface,.bool false]) w:=run_typeAssert_lacksB Tryz.underlying265 (by kernel_rfl) (by kernel_rfl) v b w
theorem Tryz.noUnwrapE (v:Value) (b:TypeId) (w:World):(Instr.typeAssert (.iface 325 v) b 261 true).run Tryz.prog w= .ok (.tuple #[.nilIface,.bool false]) w:=run_typeAssert_lacksB Tryz.underlying261 (by kernel_rfl) (by kernel_rfl) v b w
theorem Tryz.noUnwrapsE (v:Value) (b:TypeId) (w:World):(Instr.typeAssert (.iface 325 v) b 263 true).run Tryz.prog w= .ok (.tuple #[.nilIface,.bool false]) w:=run_typeAssert_lacksB Tryz.underlying263 (by kernel_rfl) (by kernel_rfl) v b w
theorem Tryz.noAsE (v:Value) (b:TypeId) (w:World):(Instr.typeAssert (.iface 325 v) b 258 true).run Tryz.prog w= .ok (.tuple #[.nilIface,.bool false]) w:=run_typeAssert_lacksB Tryz.underlying258 (by kernel_rfl) (by kernel_rfl) v b w
theorem Tryz.noIsW (v:Value) (b:TypeId) (w:World):(Instr.typeAssert (.iface 101 v) b 265 true).run Tryz.prog w= .ok (.tuple #[.nilIface,.bool false]) w:=run_typeAssert_lacksB Tryz.underlying265 (by kernel_rfl) (by kernel_rfl) v b w
theorem Tryz.hasUnwrapW (v:Value) (b:TypeId) (w:World):(Instr.typeAssert (.iface 101 v) b 261 true).run Tryz.prog w= .ok (.tuple #[.iface 101 v,.bool true]) w:=run_typeAssert_hasB Tryz.underlying261 (by kernel_rfl) v b w
theorem Tryz.methodUnwrap (v : Value) (w : World) : (Go.method 462 101 v "Unwrap").run Tryz.prog w = .ok (269, v) w := by kernel_rfl
theorem zb5d (a:Addr) (w:World) :
  Calls Tryz.prog 114 #[.iface 325 (.pointer (some a)),.iface 325 (.pointer (some a))] w fun e w'=>e= .returned (.bool true)/\w'=w:=by
 obtain⟨i,c,b⟩:=Option.map_eq_some_iff.1 Tryz.isComp;obtain⟨j,d,k⟩:=Option.map_eq_some_iff.1 Tryz.isSize;have l:=@run_callFunc_extern Tryz.prog 156 _ Extern.ReflectliteType.typeOf Tryz.func156 (by kernel_rfl) (by kernel_rfl) (by kernel_rfl) (by kernel_rfl);have f:=@run_callFunc_extern Tryz.prog 275 _ compEntry Tryz.func275 (by kernel_rfl) (by kernel_rfl) (by kernel_rfl) (by kernel_rfl);have m:=Tryz.isTypeOf;have n:=Tryz.isComparable;have o:=Tryz.isMethodComparable;have g:=run_eql_iface_ptr_same (P:=Tryz.prog) w a Tryz.underlying35 Tryz.underlying325 c b d
 go_enter Tryz.func114,Tryz.ntmps114
 go_wp2;refine wp_loop_rounds 1 ?_;rw[rounds_succ];go_wp2;go_ret;exact⟨rfl,rfl⟩
theorem zb5e (a b:Addr) (l m:Array Value) (n o:TypeId) (w:World) (f:a≠b) (p:w.heap[a.block]? =some (.cells l n (0,0))) (q:w.heap[b.block]? =some (.cells m o (0,0))) :
  Calls Tryz.prog 114 #[.iface 325 (.pointer (some a)),.iface 325 (.pointer (some b))] w fun e w'=>e= .returned (.bool false)/\w'=w:=by
 obtain⟨i,g,c⟩:=Option.map_eq_some_iff.1 Tryz.isComp;obtain⟨j,k,d⟩:=Option.map_eq_some_iff.1 Tryz.isSize;have t:=@run_callFunc_extern Tryz.prog 156 _ Extern.ReflectliteType.typeOf Tryz.func156 (by kernel_rfl) (by kernel_rfl) (by kernel_rfl) (by kernel_rfl);have r:=@run_callFunc_extern Tryz.prog 275 _ compEntry Tryz.func275 (by kernel_rfl) (by kernel_rfl) (by kernel_rfl) (by kernel_rfl);have u:=Tryz.isTypeOf;have v:=Tryz.isComparable;have y:=Tryz.isMethodComparable;have z:=Tryz.noIsE;have A:=Tryz.noUnwrapE;have B:=Tryz.noUnwrapsE;have s:=run_eql_iface_ptr_other (P:=Tryz.prog) w Tryz.underlying35 Tryz.underlying325 g c k (by rw[d];decide) f p q
 go_enter Tryz.func114,Tryz.ntmps114
 go_wp2;refine wp_loop_rounds 1 ?_;rw[rounds_succ];go_wp2;go_ret;exact⟨rfl,rfl⟩
theorem zb5f (d f:Nat) (b:Addr) (w:World) (B:w.cell? ⟨d,f+1,none⟩=some (.iface 325 (.pointer (some b)))) :
  Calls Tryz.prog 114 #[.iface 101 (.pointer (some ⟨d,f,none⟩)),.iface 325 (.pointer (some b))] w fun e w'=>e= .returned (.bool true)/\w'=w:=by
 obtain⟨i,g,c⟩:=Option.map_eq_some_iff.1 Tryz.isComp;obtain⟨j,k,o⟩:=Option.map_eq_some_iff.1 Tryz.isSize;have p:=@run_callFunc_extern Tryz.prog 156 _ Extern.ReflectliteType.typeOf Tryz.func156 (by kernel_rfl) (by kernel_rfl) (by kernel_rfl) (by kernel_rfl);have l:=@run_callFunc_extern Tryz.prog 275 _ compEntry Tryz.func275 (by kernel_rfl) (by kernel_rfl) (by kernel_rfl) (by kernel_rfl);have q:=Tryz.isTypeOf;have r:=Tryz.isComparable;have s:=Tryz.isMethodComparable;have t:=Tryz.noIsE;have u:=Tryz.noUnwrapE;have v:=Tryz.noUnwrapsE;have y:=Tryz.noIsW;have z:=Tryz.hasUnwrapW;have A:=Tryz.methodUnwrap;have m:=run_eql_iface_ptr_same (P:=Tryz.prog) w b Tryz.underlying35 Tryz.underlying325 g c k;have n:=run_eql_iface_types (P:=Tryz.prog) 101 325 (.pointer (some ⟨d,f,none⟩)) (.pointer (some b)) Tryz.underlying35 (by decide) w
 go_enter Tryz.func114,Tryz.ntmps114
 go_wp2;refine wp_loop_rounds 2 ?_;rw[rounds_succ];go_wp2;rw[rounds_succ];go_wp2;go_ret;exact⟨rfl,rfl⟩
theorem zb5g (d f:Nat) (b a:Addr) (n o:Array Value) (p q:TypeId) (w:World) (I:w.cell? ⟨d,f+1,none⟩=some (.iface 325 (.pointer (some a)))) (k:a≠b) (r:w.heap[a.block]? =some (.cells n p (0,0))) (s:w.heap[b.block]? =some (.cells o q (0,0))) :
  Calls Tryz.prog 114 #[.iface 101 (.pointer (some ⟨d,f,none⟩)),.iface 325 (.pointer (some b))] w fun e w'=>e= .returned (.bool false)/\w'=w:=by
 obtain⟨i,l,c⟩:=Option.map_eq_some_iff.1 Tryz.isComp;obtain⟨j,m,g⟩:=Option.map_eq_some_iff.1 Tryz.isSize;have y:=@run_callFunc_extern Tryz.prog 156 _ Extern.ReflectliteType.typeOf Tryz.func156 (by kernel_rfl) (by kernel_rfl) (by kernel_rfl) (by kernel_rfl);have t:=@run_callFunc_extern Tryz.prog 275 _ compEntry Tryz.func275 (by kernel_rfl) (by kernel_rfl) (by kernel_rfl) (by kernel_rfl);have z:=Tryz.isTypeOf;have A:=Tryz.isComparable;have B:=Tryz.isMethodComparable;have C:=Tryz.noIsE;have D:=Tryz.noUnwrapE;have E:=Tryz.noUnwrapsE;have F:=Tryz.noIsW;have G:=Tryz.hasUnwrapW;have H:=Tryz.methodUnwrap;have u:=run_eql_iface_ptr_other (P:=Tryz.prog) w Tryz.underlying35 Tryz.underlying325 l c m (by rw[g];decide) k r s;have v:=run_eql_iface_types (P:=Tryz.prog) 101 325 (.pointer (some ⟨d,f,none⟩)) (.pointer (some b)) Tryz.underlying35 (by decide) w
 go_enter Tryz.func114,Tryz.ntmps114
 go_wp2;refine wp_loop_rounds 2 ?_;rw[rounds_succ];go_wp2;rw[rounds_succ];go_wp2;go_ret;exact⟨rfl,rfl⟩
theorem Tryz.valueOf27 (t:Addr) (w:World):(ReflectliteValue.unpack (.iface 179 (.pointer (some t)))).run Tryz.prog w
 = .ok (.agg #[.pointer (some ⟨21,179,none⟩),.pointer (some ⟨w.heap.size,0,none⟩),.int .u64 150]) (w.alloc (.cells #[.pointer (some t)] 179)):=by kernel_rfl
theorem Tryz.type27 (a : Addr) (w : World) : (ReflectliteValue.methodAny (ReflectliteValue.valueError "reflectlite.Value.Type" 0) (fun t _ _ _ => ReflectliteType.toType t) #[.agg #[.pointer (some ⟨21, 179, none⟩), .pointer (some a), .int .u64 150]]).run Tryz.prog w
 = .ok (.iface 254 (.agg #[.pointer (some ⟨21,179,none⟩)])) w:=by kernel_rfl
theorem Tryz.methodKind (h : Value) (w : World) : (Go.method 462 254 (.agg #[h]) "Kind").run Tryz.prog w = .ok (263, h) w := by kernel_rfl
theorem Tryz.kind27 (w:World):((ReflectliteType.abiMethod fun t=>(fun a:Nat=>Value.int IntKind.u8 (a:Int)) <$> Rtype.kind t) #[.pointer (some ⟨21,179,none⟩)]).run Tryz.prog w= .ok (.int .u8 22) w:=by kernel_rfl
theorem Tryz.kind25 (w:World):((ReflectliteType.abiMethod fun t=>(fun a:Nat=>Value.int IntKind.u8 (a:Int)) <$> Rtype.kind t) #[.pointer (some ⟨21,101,none⟩)]).run Tryz.prog w= .ok (.int .u8 22) w:=by kernel_rfl
theorem Tryz.parts27 (a:Addr) (w:World):(ReflectliteValue.parts (.agg #[.pointer (some ⟨21,179,none⟩),.pointer (some a),.int .u64 150])).run Tryz.prog w= .ok (some (179,a,150)) w:=by kernel_rfl
theorem Tryz.isNil27 (a p:Addr) (W:World) (b:W.cell? a=some (.pointer (some p))) :
  (ReflectliteValue.method (ReflectliteValue.valueError "reflectlite.Value.IsNil" 0) ReflectliteValue.isNil #[.agg #[.pointer (some ⟨21, 179, none⟩), .pointer (some a), .int .u64 150]]).run Tryz.prog W = .ok (.bool false) W := by
 delta ReflectliteValue.method ReflectliteValue.method.match_2
 dsimp only;refine Eq.trans (congrArg (fun z=>Sem.run Tryz.prog z W) (dif_pos rfl)) ?_;simp only[Sem.run_bind,Array.getLit,List.getElem_toArray,List.getElem_cons_zero,Tryz.parts27,Result.andThen];simp[ReflectliteValue.isNil,loadVar,isAgg,underlying,Tryz.underlying179,b,Result.andThen]
theorem Tryz.methodElem (h : Value) (w : World) : (Go.method 462 254 (.agg #[h]) "Elem").run Tryz.prog w = .ok (276, .agg #[h]) w := by kernel_rfl
theorem Tryz.methodImplements (h : Value) (w : World) : (Go.method 462 254 (.agg #[h]) "Implements").run Tryz.prog w = .ok (277, .agg #[h]) w := by kernel_rfl
theorem Tryz.methodAssignableTo (h : Value) (w : World) : (Go.method 462 254 (.agg #[h]) "AssignableTo").run Tryz.prog w = .ok (274, .agg #[h]) w := by kernel_rfl
theorem Tryz.elem27 (w:World):(ReflectliteType.method ReflectliteType.elem #[.agg #[.pointer (some ⟨21,179,none⟩)]]).run Tryz.prog w= .ok (.iface 254 (.agg #[.pointer (some ⟨21,101,none⟩)])) w:=by kernel_rfl
theorem Tryz.implements25 (w : World) : (ReflectliteType.relation "Implements" ReflectliteType.implements_ #[.agg #[.pointer (some ⟨21, 101, none⟩)], .iface 254 (.agg #[.pointer (some ⟨21, 35, none⟩)])]).run Tryz.prog w = .ok (.bool true) w := by kernel_rfl
theorem Tryz.typeOf25 (v:Value) (w:World):(ReflectliteType.typeOf #[.iface 101 v]).run Tryz.prog w= .ok (.iface 254 (.agg #[.pointer (some ⟨21,101,none⟩)])) w:=by kernel_rfl
theorem Tryz.assignable25 (w : World) : (ReflectliteType.relation "AssignableTo" ReflectliteType.assignableTo #[.agg #[.pointer (some ⟨21, 101, none⟩)], .iface 254 (.agg #[.pointer (some ⟨21, 101, none⟩)])]).run Tryz.prog w = .ok (.bool true) w := by kernel_rfl
theorem Tryz.valueOf25 (e:Addr) (w:World):(ReflectliteValue.unpack (.iface 101 (.pointer (some e)))).run Tryz.prog w
 = .ok (.agg #[.pointer (some ⟨21,101,none⟩),.pointer (some ⟨w.heap.size,0,none⟩),.int .u64 150]) (w.alloc (.cells #[.pointer (some e)] 101)):=by kernel_rfl
theorem Tryz.elemOf27 (w:World):(Rtype.elem? 179).run Tryz.prog w= .ok (some 101) w:=by kernel_rfl
theorem Tryz.mk25 (p:Addr) (w:World):(ReflectliteValue.mk 101 p ReflectliteValue.flagAddr).run Tryz.prog w= .ok (.agg #[.pointer (some ⟨21,101,none⟩),.pointer (some p),.int .u64 406]) w:=by kernel_rfl
theorem Tryz.elemV27 (a p:Addr) (W:World) (b:W.cell? a=some (.pointer (some p))) :
  (ReflectliteValue.method (ReflectliteValue.valueError "reflectlite.Value.Elem" 0) ReflectliteValue.elem #[.agg #[.pointer (some ⟨21, 179, none⟩), .pointer (some a), .int .u64 150]]).run Tryz.prog W
   = .ok (.agg #[.pointer (some ⟨21,101,none⟩),.pointer (some p),.int .u64 406]) W:=by
 delta ReflectliteValue.method ReflectliteValue.method.match_2
 dsimp only;refine Eq.trans (congrArg (fun z=>Sem.run Tryz.prog z W) (dif_pos rfl)) ?_;simp only[Sem.run_bind,Array.getLit,List.getElem_toArray,List.getElem_cons_zero,Tryz.parts27,Result.andThen];simp[ReflectliteValue.elem,loadVar,isAgg,underlying,Tryz.underlying179,b,Result.andThen,Tryz.elemOf27,Tryz.mk25]
theorem Tryz.parts25a (a:Addr) (w:World):(ReflectliteValue.parts (.agg #[.pointer (some ⟨21,101,none⟩),.pointer (some a),.int .u64 406])).run Tryz.prog w= .ok (some (101,a,406)) w:=by kernel_rfl
theorem Tryz.parts25 (a:Addr) (w:World):(ReflectliteValue.parts (.agg #[.pointer (some ⟨21,101,none⟩),.pointer (some a),.int .u64 150])).run Tryz.prog w= .ok (some (101,a,150)) w:=by kernel_rfl
theorem Tryz.direct25 (w:World):(Rtype.directlyAssignable 101 101).run Tryz.prog w= .ok true w:=by kernel_rfl
theorem Tryz.set25 (c b e:Addr) (d:Value) (W:World) (f:W.cell? b=some (.pointer (some e))) (g:W.cell? c=some d) (i:W.frozen? c=false) :
  (ReflectliteValue.set #[.agg #[.pointer (some ⟨21,101,none⟩),.pointer (some c),.int .u64 406],.agg #[.pointer (some ⟨21,101,none⟩),.pointer (some b),.int .u64 150]]).run Tryz.prog W
   = .ok (.tuple #[]) (W.setCell c (.pointer (some e))):=by
 delta ReflectliteValue.set ReflectliteValue.set.match_3
 dsimp only;refine Eq.trans (congrArg (fun z=>Sem.run Tryz.prog z W) (dif_pos rfl)) ?_;simp only[Sem.run_bind,Array.getLit,List.getElem_toArray,List.getElem_cons_zero,List.getElem_cons_succ,Tryz.parts25a,Tryz.parts25,Result.andThen];simp[ReflectliteValue.flagAddr,loadVar,isAgg,underlying,Tryz.underlying101,f,Result.andThen,Tryz.direct25,storeVar,Value.cells,storeCells,Addr.add];rw[run_store Tryz.prog W c _ _ (by rfl)];simp[g,i]
theorem zb5h (e t:Addr) (c:Value) (w:World) (g:w.cell? ⟨13,0,none⟩=some (.iface 254 (.agg #[.pointer (some ⟨21,35,none⟩)]))) (d:w.cell? t=some c) (i:w.frozen? t=false) :
  Calls Tryz.prog 113 #[.iface 101 (.pointer (some e)),.iface 179 (.pointer (some t))] w fun ev w'=>ev= .returned (.bool true)/\w'=((((w.alloc (.cells #[.pointer (some t)] 179)).alloc (.cells #[.pointer (some ⟨21,179,none⟩),.pointer (some ⟨w.heap.size,0,none⟩),.int .u64 150] 218)).alloc (.cells #[.pointer (some ⟨21,179,none⟩),.pointer (some ⟨w.heap.size,0,none⟩),.int .u64 150] 218)).alloc (.cells #[.pointer (some e)] 101)).setCell t (.pointer (some e)):=by
 have A := @run_callFunc_extern Tryz.prog 152 _ (fun args => ReflectliteValue.unpack (args.getD 0 (.tuple #[]))) Tryz.func152 (by kernel_rfl) (by kernel_rfl) (by kernel_rfl) (by kernel_rfl);have B := @run_callFunc_extern Tryz.prog 153 _ (ReflectliteValue.methodAny (ReflectliteValue.valueError "reflectlite.Value.Type" 0) (fun t _ _ _ => ReflectliteType.toType t)) Tryz.func153 (by kernel_rfl) (by kernel_rfl) (by kernel_rfl) (by kernel_rfl);have C := @run_callFunc_extern Tryz.prog 154 _ (ReflectliteValue.method (ReflectliteValue.valueError "reflectlite.Value.IsNil" 0) ReflectliteValue.isNil) Tryz.func154 (by kernel_rfl) (by kernel_rfl) (by kernel_rfl) (by kernel_rfl);have j := @run_callFunc_extern Tryz.prog 263 _ (ReflectliteType.abiMethod fun t => do pure (.int .u8 (← Rtype.kind t))) Tryz.func263 (by kernel_rfl) (by kernel_rfl) (by kernel_rfl) (by kernel_rfl);have k := @run_callFunc_extern Tryz.prog 276 _ (ReflectliteType.method ReflectliteType.elem) Tryz.func276 (by kernel_rfl) (by kernel_rfl) (by kernel_rfl) (by kernel_rfl);have l := @run_callFunc_extern Tryz.prog 277 _ (ReflectliteType.relation "Implements" ReflectliteType.implements_) Tryz.func277 (by kernel_rfl) (by kernel_rfl) (by kernel_rfl) (by kernel_rfl);have m := @run_callFunc_extern Tryz.prog 156 _ ReflectliteType.typeOf Tryz.func156 (by kernel_rfl) (by kernel_rfl) (by kernel_rfl) (by kernel_rfl);have n := @run_callFunc_extern Tryz.prog 274 _ (ReflectliteType.relation "AssignableTo" ReflectliteType.assignableTo) Tryz.func274 (by kernel_rfl) (by kernel_rfl) (by kernel_rfl) (by kernel_rfl);have o := @run_callFunc_extern Tryz.prog 181 _ (ReflectliteValue.method (ReflectliteValue.valueError "reflectlite.Value.Elem" 0) ReflectliteValue.elem) Tryz.func181 (by kernel_rfl) (by kernel_rfl) (by kernel_rfl) (by kernel_rfl);have p := @run_callFunc_extern Tryz.prog 182 _ ReflectliteValue.set Tryz.func182 (by kernel_rfl) (by kernel_rfl) (by kernel_rfl) (by kernel_rfl);have D := Tryz.typeOf25;have E := Tryz.methodAssignableTo;have q := Tryz.assignable25;have r := Tryz.valueOf25;have F := Tryz.valueOf27;have G := Tryz.type27;have H := Tryz.methodKind;have I := Tryz.methodElem;have J := Tryz.methodImplements;have s := Tryz.kind27;have u := Tryz.kind25;have v := Tryz.elem27;have y := Tryz.implements25;have K := Tryz.isNil27 ⟨w.heap.size, 0, none⟩ t ((w.alloc (.cells #[.pointer (some t)] 179)).alloc (.cells #[.pointer (some ⟨21, 179, none⟩), .pointer (some ⟨w.heap.size, 0, none⟩), .int .u64 150] 218)) (by simp);have f : 13 < w.heap.size := by
  rcases Nat.lt_or_ge 13 w.heap.size with h | h
  ·exact h
  ·simp[World.cell?,Array.getElem?_eq_none h]at g
 have z:((w.alloc (.cells #[.pointer (some t)] 179)).alloc (.cells #[.pointer (some ⟨21,179,none⟩),.pointer (some ⟨w.heap.size,0,none⟩),.int .u64 150] 218)).cell? ⟨13,0,none⟩=some (.iface 254 (.agg #[.pointer (some ⟨21,35,none⟩)])):=by
  rw[World.cell?_alloc_lt _ _ ⟨13,0,none⟩ (by simp;omega),World.cell?_alloc_lt _ _ ⟨13,0,none⟩ f];exact g
 have b:t.block<w.heap.size:=by
  rcases Nat.lt_or_ge t.block w.heap.size with h | h
  ·exact h
  ·simp[World.cell?,Array.getElem?_eq_none h]at d
 have L:=Tryz.elemV27 ⟨w.heap.size,0,none⟩ t (((w.alloc (.cells #[.pointer (some t)] 179)).alloc (.cells #[.pointer (some ⟨21,179,none⟩),.pointer (some ⟨w.heap.size,0,none⟩),.int .u64 150] 218)).alloc (.cells #[.pointer (some ⟨21,179,none⟩),.pointer (some ⟨w.heap.size,0,none⟩),.int .u64 150] 218)) (by rw[World.cell?_alloc_lt _ _ ⟨w.heap.size,0,none⟩ (by simp;omega)];simp);have M:=Tryz.set25 t ⟨w.heap.size+1+1+1,0,none⟩ e c ((((w.alloc (.cells #[.pointer (some t)] 179)).alloc (.cells #[.pointer (some ⟨21,179,none⟩),.pointer (some ⟨w.heap.size,0,none⟩),.int .u64 150] 218)).alloc (.cells #[.pointer (some ⟨21,179,none⟩),.pointer (some ⟨w.heap.size,0,none⟩),.int .u64 150] 218)).alloc (.cells #[.pointer (some e)] 101))
  (by rw[World.cell?_alloc_at _ _ _ _ (by simp)];rfl)
  (by rw[World.cell?_alloc_lt _ _ t (by simp;omega),World.cell?_alloc_lt _ _ t (by simp;omega),World.cell?_alloc_lt _ _ t (by simp;omega),World.cell?_alloc_lt _ _ t b];exact d)
  (by rw[World.frozen?_alloc_old _ _ t (by simp;omega),World.frozen?_alloc_old _ _ t (by simp;omega),World.frozen?_alloc_old _ _ t (by simp;omega),World.frozen?_alloc_old _ _ t (Nat.ne_of_lt b)];exact i)
 go_enter Tryz.func113,Tryz.ntmps113
 go_wp2;refine wp_loop_rounds 1 ?_;rw[rounds_succ];go_wp2;go_ret;exact⟨rfl,rfl⟩
theorem Tryz.typeOfE (v:Value) (w:World):(ReflectliteType.typeOf #[.iface 325 v]).run Tryz.prog w= .ok (.iface 254 (.agg #[.pointer (some ⟨21,325,none⟩)])) w:=by kernel_rfl
theorem Tryz.assignableE (w : World) : (ReflectliteType.relation "AssignableTo" ReflectliteType.assignableTo #[.agg #[.pointer (some ⟨21, 325, none⟩)], .iface 254 (.agg #[.pointer (some ⟨21, 101, none⟩)])]).run Tryz.prog w = .ok (.bool false) w := by kernel_rfl
theorem zb5i (e t:Addr) (w:World) (c:w.cell? ⟨13,0,none⟩=some (.iface 254 (.agg #[.pointer (some ⟨21,35,none⟩)]))) :
  Calls Tryz.prog 113 #[.iface 325 (.pointer (some e)),.iface 179 (.pointer (some t))] w fun ev w'=>ev= .returned (.bool false)/\w'=(((w.alloc (.cells #[.pointer (some t)] 179)).alloc (.cells #[.pointer (some ⟨21,179,none⟩),.pointer (some ⟨w.heap.size,0,none⟩),.int .u64 150] 218)).alloc (.cells #[.pointer (some ⟨21,179,none⟩),.pointer (some ⟨w.heap.size,0,none⟩),.int .u64 150] 218)):=by
 have q := @run_callFunc_extern Tryz.prog 152 _ (fun args => ReflectliteValue.unpack (args.getD 0 (.tuple #[]))) Tryz.func152 (by kernel_rfl) (by kernel_rfl) (by kernel_rfl) (by kernel_rfl);have r := @run_callFunc_extern Tryz.prog 153 _ (ReflectliteValue.methodAny (ReflectliteValue.valueError "reflectlite.Value.Type" 0) (fun t _ _ _ => ReflectliteType.toType t)) Tryz.func153 (by kernel_rfl) (by kernel_rfl) (by kernel_rfl) (by kernel_rfl);have s := @run_callFunc_extern Tryz.prog 154 _ (ReflectliteValue.method (ReflectliteValue.valueError "reflectlite.Value.IsNil" 0) ReflectliteValue.isNil) Tryz.func154 (by kernel_rfl) (by kernel_rfl) (by kernel_rfl) (by kernel_rfl);have d := @run_callFunc_extern Tryz.prog 263 _ (ReflectliteType.abiMethod fun t => do pure (.int .u8 (← Rtype.kind t))) Tryz.func263 (by kernel_rfl) (by kernel_rfl) (by kernel_rfl) (by kernel_rfl);have f := @run_callFunc_extern Tryz.prog 276 _ (ReflectliteType.method ReflectliteType.elem) Tryz.func276 (by kernel_rfl) (by kernel_rfl) (by kernel_rfl) (by kernel_rfl);have g := @run_callFunc_extern Tryz.prog 277 _ (ReflectliteType.relation "Implements" ReflectliteType.implements_) Tryz.func277 (by kernel_rfl) (by kernel_rfl) (by kernel_rfl) (by kernel_rfl);have i := @run_callFunc_extern Tryz.prog 156 _ ReflectliteType.typeOf Tryz.func156 (by kernel_rfl) (by kernel_rfl) (by kernel_rfl) (by kernel_rfl);have j := @run_callFunc_extern Tryz.prog 274 _ (ReflectliteType.relation "AssignableTo" ReflectliteType.assignableTo) Tryz.func274 (by kernel_rfl) (by kernel_rfl) (by kernel_rfl) (by kernel_rfl);have u := Tryz.typeOfE;have v := Tryz.methodAssignableTo;have k := Tryz.assignableE;have y := Tryz.noAsE;have z := Tryz.noUnwrapE;have A := Tryz.noUnwrapsE;have B := Tryz.valueOf27;have C := Tryz.type27;have D := Tryz.methodKind;have E := Tryz.methodElem;have F := Tryz.methodImplements;have l := Tryz.kind27;have m := Tryz.kind25;have n := Tryz.elem27;have o := Tryz.implements25;have G := Tryz.isNil27 ⟨w.heap.size, 0, none⟩ t ((w.alloc (.cells #[.pointer (some t)] 179)).alloc (.cells #[.pointer (some ⟨21, 179, none⟩), .pointer (some ⟨w.heap.size, 0, none⟩), .int .u64 150] 218)) (by simp);have b : 13 < w.heap.size := by
  rcases Nat.lt_or_ge 13 w.heap.size with h | h
  ·exact h
  ·simp[World.cell?,Array.getElem?_eq_none h]at c
 have p:((w.alloc (.cells #[.pointer (some t)] 179)).alloc (.cells #[.pointer (some ⟨21,179,none⟩),.pointer (some ⟨w.heap.size,0,none⟩),.int .u64 150] 218)).cell? ⟨13,0,none⟩=some (.iface 254 (.agg #[.pointer (some ⟨21,35,none⟩)])):=by
  rw[World.cell?_alloc_lt _ _ ⟨13,0,none⟩ (by simp;omega),World.cell?_alloc_lt _ _ ⟨13,0,none⟩ b];exact c
 go_enter Tryz.func113,Tryz.ntmps113
 go_wp2;refine wp_loop_rounds 1 ?_;rw[rounds_succ];go_wp2;go_ret;exact⟨rfl,rfl⟩
end Go.Proofs.YtgckdomafbnmkaaGreatDoor
