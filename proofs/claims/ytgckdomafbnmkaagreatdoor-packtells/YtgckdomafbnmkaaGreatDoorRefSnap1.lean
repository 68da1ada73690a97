/- By an AI agent. -/
import Derived.Test.YtgckdomafbnmkaaGreatDoorRefRise
set_option maxRecDepth 100000
set_option maxHeartbeats 16000000
namespace Go.Proofs.YtgckdomafbnmkaaGreatDoor
open Go.RowKit Go.Extern.Stop Go.Stop Go.Extern Go.Sort Go.Shelf Go.Lib
def ReadPostK (w:World) (D:List Int×Nat×Option Nat) (e:Ending) (w':World):Prop :=
 BL w w'/\((D.2.1=0/\∃v,e= .returned (.tuple #[v,.agg #[.int .i64 0,.int .i64 (-1)]])/\KeysAt w' v D.1/\NewAt w v) \/
  (D.2.1≠0/\∃j:Int,e= .returned (.tuple #[.slice none 0 0,.agg #[.int .i64 D.2.1,.int .i64 j]])/\(D.2.2=none->j= -1)/\∀k:Nat,D.2.2=some k->j=k))
theorem zb6p (n lo hi:Int) (b:List Int):endG goneK n lo hi (b,0,0)=if headF n lo hi b=0 then (b,0,none) else ([],headF n lo hi b,none):=by
 unfold endG headF;rw[zu9];simp only[ne_eq,not_true_eq_false,if_false];split
 ·simp
 ·split<;>simp
theorem zb6q (l d:List UInt8) (r:List (List UInt8)) (b:Nat) (c:List Int):rowsG goneK (l :: d :: r) b c=if (keyO l).2≠0 then ([],(keyO l).2,b) else
 if c≠ []/\decide ((keyO l).1<=c.getLastD 0)=true then ([],9,b) else rowsG goneK (d :: r) (b+1) (c++ [(keyO l).1]):=rfl
theorem za5v (s:ByteArray) (w:World) (hs:s.size<=maxLen) :
  Calls Tryz.prog 81 #[.string s] w fun e w'=>ReadPostK w (goneO s.data.toList) e w':=by
 obtain⟨i0,b5,b6,b7,bi⟩:=Tryz.numInfo;have a1:=FC.new w;have a2:BL w (w.alloc (.cells #[.int .i64 0,.int .i64 0] 53)):=alB _ _;have a3:=za5r goneK ⟨#[103,111,110,101]⟩ s rfl (w.alloc (.cells #[.int .i64 0,.int .i64 0] 53)) hs;obtain⟨D,bj⟩:∃D,goneO s.data.toList=D:=⟨_,rfl⟩;have a4:Hid (goneO s.data.toList=D):=bj;rw[bj];clear bj hs
 go_enter Tryz.func81,Tryz.ntmps81
 go_wp2_with fail
 generalize w.alloc (.cells #[.int .i64 0,.int .i64 0] 53)=w1 at a1 a2 a3 ⊢;refine a3.mono ?_;rintro e I ⟨bn,hp⟩;clear a3;have a5:BL w I:=trB a2 bn;have ao:=a1.below bn;clear a1 a2 bn;rcases hp with⟨c,b9,rfl,hD⟩|⟨nn,aj,ak,cs,b,v,tv,m,rfl,av,ca,aw,ct,hD⟩
 ·have q:Hid (D=([],c,none)):=by show _=_;rw[<-a4.out];exact hD
  have cy:(0:Int)<(c:Int):=by omega
  have cg:Hid (c≠0):=b9;have A:BL I (I.alloc (.cells #[.int .i64 c,.int .i64 (-1)] 53)):=alB _ _;have J:FC (I.alloc (.cells #[.int .i64 c,.int .i64 (-1)] 53)) I.heap.size c (-1):=heap_alloc_new _ _;have K:=ao.below A;have N:BL w (I.alloc (.cells #[.int .i64 c,.int .i64 (-1)] 53)):=trB a5 A;clear hD b9 A ao;go_wp2;generalize I.alloc (.cells #[.int .i64 c,.int .i64 (-1)] 53)=o at J K N ⊢;generalize I.heap.size=C at J ⊢;have S:=K.c0;have T:=K.c1;have jz:=K.fz;have k0:=J.c0;have k1:=J.c1;have a6:=N.drew;have B:FC o.drew w.heap.size 0 0:=K.below (Below.refl o.heap.size o).drew;have L:FC o.drew C c (-1):=J.below (Below.refl o.heap.size o).drew;have m0:=B.c0;have m1:=B.c1;have mz:=B.fz;have n0:=L.c0;have n1:=L.c1;clear B L
  go_region
  all_goals go_wp2
  all_goals refine bodyPost_ret (v:=.tuple #[.slice none 0 0,.agg #[.int .i64 c,.int .i64 (-1)]]) (by simp[results,Tryz.results81,go_sem,S,T]) rfl ⟨?_,Or.inr ⟨by rw[q.out];exact cg.out,-1,by rw[q.out],fun _=>rfl,by rw[q.out];intro k h;cases h⟩⟩
  all_goals first
   | exact(N.setCell (by simp) _).setCell (by simp) _
   | exact(a6.setCell (by simp) _).setCell (by simp) _
   | exact((N.setCell (by simp) _).setCell (by simp) _).drew
 obtain⟨R,hR⟩:∃R,rowsG goneK (pieces 10 b) 0 []=R:=⟨_,rfl⟩;have q:Hid (D=endG goneK nn aj ak R):=by show _=_;rw[<-a4.out];exact hD.trans (congrArg (endG goneK nn aj ak) hR)
 have cz:Hid (m.map (·.data.toList)=pieces 10 b):=aw;have ch:=zt9 10 b;have ci:=List.count_le_length (a:=(10:UInt8)) (l:=b);have cj:m.length=(pieces 10 b).length:=by have:=congrArg List.length aw;simpa using this
 have cb:1<=m.length:=by omega
 have O:Hid (m.length<=20001):=by show _<=_;omega
 have ck:Hid (∀t∈m,t.size<=20000):=fun t ht=>by
  have h1:t.data.toList∈pieces 10 b:=by rw[<-aw];exact List.mem_map_of_mem ht
  have h2:=zz1 10 b _ h1;rw[za3]at h2;omega
 have HR:Hid (rowsG goneK (m.map (·.data.toList)) 0 []=R):=by show _=_;rw[aw];exact hR
 clear hR hD aw ch ci cj ct a4;have A:BL I (I.alloc (.cells #[.int .i64 0,.int .i64 (-1)] 53)):=alB _ _;have J:FC (I.alloc (.cells #[.int .i64 0,.int .i64 (-1)] 53)) I.heap.size 0 (-1):=heap_alloc_new _ _;have K:=ao.below A;have N:BL w (I.alloc (.cells #[.int .i64 0,.int .i64 (-1)] 53)):=trB a5 A;have a7:=av.below A;obtain⟨tb,cw,rfl,br,b8⟩:=ca.below A;have cc:=ao.lt;clear A ao av ca a5;obtain⟨TL,ay⟩:∃TL,m.length=TL:=⟨_,rfl⟩;have HX:Hid (m.length=TL):=ay;rw[ay]at cb O ⊢;obtain⟨M,rfl⟩:∃M,TL=M+1:=⟨TL-1,by omega⟩;have c2:M<=20000:=by have:=O.out;omega
 have bs:Hid (∀j (h:j<m.length),(I.alloc (.cells #[.int .i64 0,.int .i64 (-1)] 53)).cell? ⟨tb,j,none⟩=some (.string m[j])):=b8;clear ay b8 br;go_wp2;generalize I.alloc (.cells #[.int .i64 0,.int .i64 (-1)] 53)=o at J K N a7 bs ⊢;generalize I.heap.size=C at J cc ⊢;have bt:=K.lt;have bu:=J.lt
 go_loopw [7,8] (fun out k wr=> ∃(n:Nat) (f:List Int),n<M+1/\k= .int .i64 n/\f.length=n/\BL o wr/\wr.ownsRow o.heap.size 3 1 out n (f.map (Value.int .i64))/\rowsG goneK ((m.map (·.data.toList)).drop n) n f=R) (fun _ k _=>M+1-(intOf k).toNat)
 case atStart=>exact ⟨0, [],by omega,rfl,rfl,Below.refl _ _,World.ownsRow_nil _ _ _ _,HR.out⟩
 case round =>
  obtain⟨n,f,hn,rfl,bk,hb,bl,d⟩:=hrel;have U:Hid (wr.ownsRow o.heap.size 3 1 u7 n (f.map (Value.int .i64))):=bl;have P:Hid (f.length=n):=bk;have a8:n<m.length:=by rw[HX.out];exact hn
  have bv:(m.map (·.data.toList)).drop n=m[n].data.toList :: (m.map (·.data.toList)).drop (n+1):=by
   rw[List.drop_eq_getElem_cons (by rw[List.length_map];exact a8)];simp
  rw[bv]at d;have cl:=za0 hb (bs.out n a8);have ac:=ck.out m[n] (List.getElem_mem _);have hi:(n:Int)<(M:Int)+1:=by omega
  have c3:IntKind.i64.wrap (M:Int)=(M:Int):=IntWalk.i64_in _ (by have:=O.out;omega);have cd:(0:Int)<=(n:Int):=by omega
  have af:BL w wr:=trB N hb;have ag:=K.below hb;clear bl bk bv;by_cases bq:n=M
  ·subst bq;have a9:(m.map (·.data.toList)).drop (n+1)= []:=List.drop_eq_nil_of_le (by rw[List.length_map,HX.out];exact Nat.le_refl _);rw[a9,zu7]at d;clear a9;generalize m[n]=t at cl ac d;by_cases ah:t.data.toList= []
   ·have cm:(t.toList == [])=true:=za6 ah;rw[if_pos ah]at d;have i:Hid (D=if headF nn aj ak f=0 then (f,0,none) else ([],headF nn aj ak f,none)):=by
     show _=_;rw[q.out,<-d,zb6p]
    clear d ah ac;have bw:KeysAt wr u7 f:=zi7 (by rw[P.out];exact U.out);obtain⟨q7,c7,rfl⟩:=zm2 U.out;have ba:=za5s v (.slice q7 n c7) nn aj ak cs f wr (a7.below hb) bw (by have:=P.out;have:=O.out;omega);clear bw;generalize headF nn aj ak f=H at i ba
    go_wp2_with fail
    refine ba.mono ?_;rintro e u ⟨rfl,F⟩;clear ba;have am:BL o u:=trB hb F;have bb:BL w u:=trB N am;have ap:=J.below am;have bx:=K.below am;have bz:u.ownsRow o.heap.size 3 1 (.slice q7 n c7) n (f.map (Value.int .i64)):=za2 U.out F;have az:w.heap.size≠C:=by omega
    have aq:=ap.set H (-1);have X:FC ((u.setCell ⟨C,0,none⟩ (.int .i64 H)).setCell ⟨C,1,none⟩ (.int .i64 (-1))) w.heap.size 0 0:=zr1 (zr1 bx az) az;have ad:BL w ((u.setCell ⟨C,0,none⟩ (.int .i64 H)).setCell ⟨C,1,none⟩ (.int .i64 (-1))):=(bb.setCell (by simp;omega) _).setCell (by simp;omega) _;have Y:((u.setCell ⟨C,0,none⟩ (.int .i64 H)).setCell ⟨C,1,none⟩ (.int .i64 (-1))).ownsRow o.heap.size 3 1 (.slice q7 n c7) n (f.map (Value.int .i64)):=ownsRow_setCell_below (ownsRow_setCell_below bz (a:=⟨C,0,none⟩) bu _) (a:=⟨C,1,none⟩) bu _;have k0:=ap.c0;have k1:=ap.c1;have kz:=ap.fz;clear ag af U bz F am bx ap cl bb;by_cases hH:H=0
    ·subst hH;rw[if_pos rfl]at i;have bc:Hid (((u.setCell ⟨C,0,none⟩ (.int .i64 ((0:Nat):Int))).setCell ⟨C,1,none⟩ (.int .i64 (-1))).ownsRow o.heap.size 3 1 (.slice q7 n c7) n (f.map (Value.int .i64))):=Y;have ce:Hid (NewAt w (.slice q7 n c7)):=fun k hk=>Nat.le_trans N.size (Y.lt k hk).1;clear Y aq;have bd:((0:Nat):Int)=0:=rfl;rw[bd]at X ad bc ⊢;clear bd;have be:=fun W=>ze1 W
     go_wp2_with fail
     generalize (u.setCell ⟨C,0,none⟩ (.int .i64 0)).setCell ⟨C,1,none⟩ (.int .i64 (-1))=W6 at X ad bc ⊢;refine(be _).mono ?_;rintro e w7 ⟨rfl,bo⟩;clear be k0 k1 kz;have a0:=X.below bo;have cn:BL w w7:=trB ad bo;have S:=a0.c0;have T:=a0.c1;have jz:=a0.fz;have b0:=za2 bc.out bo;have b1:=ownsRow_setCell_below (ownsRow_setCell_below b0 (a:=⟨w.heap.size,0,none⟩) bt (.int .i64 0)) (a:=⟨w.heap.size,1,none⟩) bt (.int .i64 (-1));have co:Hid (KeysAt ((w7.setCell ⟨w.heap.size,0,none⟩ (.int .i64 0)).setCell ⟨w.heap.size,1,none⟩ (.int .i64 (-1))) (.slice q7 n c7) f):=zi7 (by rw[P.out];exact b1);clear b0 b1 a0;go_wp2;exact bodyPost_ret (v:=.tuple #[.slice q7 n c7,.agg #[.int .i64 0,.int .i64 (-1)]]) (by simp[results,Tryz.results81,go_sem,S,T]) rfl ⟨(cn.setCell (by simp) _).setCell (by simp) _,Or.inl ⟨by rw[i.out],_,rfl,by rw[i.out];exact co.out,ce.out⟩⟩
    ·rw[if_neg hH]at i;have c4:(0:Int)<(H:Int):=by omega
     have cq:Hid (H≠0):=hH;clear Y hH;go_wp2;generalize (u.setCell ⟨C,0,none⟩ (.int .i64 H)).setCell ⟨C,1,none⟩ (.int .i64 (-1))=W6 at X aq ad ⊢;have S:=X.c0;have T:=X.c1;have jz:=X.fz;have l0:=aq.c0;have l1:=aq.c1;have a6:=ad.drew;have B:FC W6.drew w.heap.size 0 0:=X.below (Below.refl W6.heap.size W6).drew;have L:FC W6.drew C H (-1):=aq.below (Below.refl W6.heap.size W6).drew;have m0:=B.c0;have m1:=B.c1;have mz:=B.fz;have n0:=L.c0;have n1:=L.c1;clear B L k0 k1 kz
     go_region
     all_goals go_wp2
     all_goals refine bodyPost_ret (v:=.tuple #[.slice none 0 0,.agg #[.int .i64 H,.int .i64 (-1)]]) (by simp[results,Tryz.results81,go_sem,S,T]) rfl ⟨?_,Or.inr ⟨by rw[i.out];exact cq.out,-1,by rw[i.out],fun _=>rfl,by rw[i.out];intro k h;cases h⟩⟩
     all_goals first
      | exact(ad.setCell (by simp) _).setCell (by simp) _
      | exact(a6.setCell (by simp) _).setCell (by simp) _
      | exact((ad.setCell (by simp) _).setCell (by simp) _).drew
   ·have cm:(t.toList == [])=false:=za7 ah;rw[if_neg ah]at d;have i:Hid (R=([],1,n)):=d.symm;clear d ah ac;have p:=ag;have ae:=af;have S:=p.c0;have T:=p.c1;have jz:=p.fz;go_wp2;refine bodyPost_ret (v:=.tuple #[.slice none 0 0,.agg #[.int .i64 1,.int .i64 n]]) (by simp[results,Tryz.results81,go_sem,S,T]) rfl ⟨(ae.setCell (by simp) _).setCell (by simp) _,Or.inr ⟨?_,n,?_,?_,?_⟩⟩
    ·rw[q.out,i.out,endG,if_pos (by simp)];simp
    ·rw[q.out,i.out,endG,if_pos (by simp)];rfl
    ·rw[q.out,i.out,endG,if_pos (by simp)];intro h;cases h
    ·rw[q.out,i.out,endG,if_pos (by simp)];intro k h;injection h with h;rw[<-h]
  ·have c5:n<M:=by omega
   obtain⟨l2,r,bm⟩:∃l2 r,(m.map (·.data.toList)).drop (n+1)=l2 :: r:=List.exists_cons_of_ne_nil (fun e=>by
    have:=congrArg List.length e;rw[List.length_drop,List.length_map,HX.out,List.length_nil]at this;omega)
   rw[bm,zb6q,<-bm]at d;have cr:¬(n:Int)=(M:Int):=by omega
   have z:=zl2 m[n] wr (by unfold maxLen;omega);clear bm;generalize m[n].data.toList=tl at d z;generalize m[n]=t at cl ac z;unfold numR at z
   cases ab:numO tl with
   | none =>
    have Z:keyO tl=(0,1):=by rw[zi6,ab]
    rw[Z]at d;rw[ab]at z;dsimp only at z;rw[if_pos (by simp)]at d;have i:Hid (R=([],1,n)):=d.symm;clear d Z ab
    go_wp2_with fail
    refine z.mono ?_;rintro e w4 ⟨rfl,aa⟩;have E:BL wr w4:=by rw[aa];exact Below.refl _ _
    clear z aa;have p:=ag.below E;have ae:BL w w4:=trB af E;have S:=p.c0;have T:=p.c1;have jz:=p.fz;go_wp2;refine bodyPost_ret (v:=.tuple #[.slice none 0 0,.agg #[.int .i64 1,.int .i64 n]]) (by simp[results,Tryz.results81,go_sem,S,T]) rfl ⟨(ae.setCell (by simp) _).setCell (by simp) _,Or.inr ⟨?_,n,?_,?_,?_⟩⟩
    ·rw[q.out,i.out,endG,if_pos (by simp)];simp
    ·rw[q.out,i.out,endG,if_pos (by simp)];rfl
    ·rw[q.out,i.out,endG,if_pos (by simp)];intro h;cases h
    ·rw[q.out,i.out,endG,if_pos (by simp)];intro k h;injection h with h;rw[<-h]
   | some x =>
    rw[ab]at z;dsimp only at z;have V:=fun W=>zl1 x W
    cases al:inNum x with
    | false =>
     have Z:keyO tl=(0,2):=by rw[zi6,ab];simp[al]
     rw[Z]at d;rw[al]at V;rw[if_pos (by simp)]at d;have i:Hid (R=([],2,n)):=d.symm;clear d Z ab al
     go_wp2_with fail
     refine z.mono ?_;rintro e w4 ⟨rfl,aa⟩;have E:BL wr w4:=by rw[aa];exact Below.refl _ _
     clear z aa;have p:=ag.below E;have ae:BL w w4:=trB af E
     go_wp2_with fail
     refine(V _).mono ?_;rintro e u ⟨rfl,rfl⟩;clear V;have S:=p.c0;have T:=p.c1;have jz:=p.fz;go_wp2;refine bodyPost_ret (v:=.tuple #[.slice none 0 0,.agg #[.int .i64 2,.int .i64 n]]) (by simp[results,Tryz.results81,go_sem,S,T]) rfl ⟨(ae.setCell (by simp) _).setCell (by simp) _,Or.inr ⟨?_,n,?_,?_,?_⟩⟩
     ·rw[q.out,i.out,endG,if_pos (by simp)];simp
     ·rw[q.out,i.out,endG,if_pos (by simp)];rfl
     ·rw[q.out,i.out,endG,if_pos (by simp)];intro h;cases h
     ·rw[q.out,i.out,endG,if_pos (by simp)];intro k h;injection h with h;rw[<-h]
    | true =>
     have Z:keyO tl=(x,0):=by rw[zi6,ab];simp[al]
     rw[Z]at d;rw[al]at V;rw[if_neg (by simp)]at d;clear Z ab al;dsimp only at d
     go_wp2_with fail
     refine z.mono ?_;rintro e w4 ⟨rfl,aa⟩;have E:BL wr w4:=by rw[aa];exact Below.refl _ _
     clear z aa;have p:=ag.below E;have ae:BL w w4:=trB af E;have ai:BL o w4:=trB hb E;have b2:Hid (w4.ownsRow o.heap.size 3 1 u7 n (f.map (Value.int .i64))):=za2 U.out E;clear U;have U:=b2;clear b2 cl ac ag af E
     go_wp2_with fail
     refine(V _).mono ?_;rintro e u ⟨rfl,rfl⟩;clear V
     cases n with
     | zero =>
      have b3:f= []:=List.length_eq_zero_iff.1 P.out;rw[if_neg (by rw[b3];simp)]at d;have bf:Hid (rowsG goneK ((m.map (·.data.toList)).drop (0+1)) (0+1) (f++ [x])=R):=d;clear d b3;have e0:((0:Nat):Int)=0:=rfl;rw[e0]at cr hi cd ⊢;clear e0;have ax:BL u (u.alloc (.cells #[.int .i64 x] 3)):=alB _ _;have F:BL o (u.alloc (.cells #[.int .i64 x] 3)):=ai.alloc ai.size _
      go_wp2_with (at_builtin;refine wpList_append_own _ rfl _ _ 69 rfl o.heap.size 3 i0 (.int .i64 0) 1 8 Tryz.underlying69 b5 b6 b7 bi rfl (by decide) _ 0 (f.map (Value.int .i64)) rfl ?qd0 ⟨u.heap.size,0,none⟩ 1 1 [.int .i64 x] rfl ?qd1 ?qd2 ?qd3 ?qd4 ?qd5 ?qd6 ?_)
      case qd0=>exact za2 U.out ax
      case qd1=>rfl
      case qd2=>exact zb6 _ _ _
      case qd3=>exact zd1 [x]
      case qd4=>have:=O.out;unfold maxLen;omega
      case qd5=>have:=O.out;omega
      case qd6=>first | exact F.size | (have:=ai.size;omega)
      intro v6 w6 Q G an;have bg:BL o w6:=F.grown G F.size (fun k hk=>by
       rcases U.out.2 with⟨e,_⟩|⟨g',cf,cu,e,cv,_⟩
       ·rw[e]at hk;simp[Value.ownBlock]at hk
       ·rw[e]at hk;simp[Value.ownBlock]at hk;omega)
      have Y:Hid (w6.ownsRow o.heap.size 3 1 v6 (0+1) (f.map (Value.int .i64)++ [.int .i64 x])):=Q;clear Q an G;go_wp2;go_roundw
      case rel=>exact ⟨0+1,f++ [x],by omega,by go_num,by rw[List.length_append,P.out];rfl,bg,by rw[List.map_append];exact Y.out,bf.out⟩
      case measure=>simp [intOf]<;>omega
     | succ k =>
      have ar:k<f.length:=by rw[P.out];omega
      have bh:f≠ []:=fun e=>by rw[e]at ar;simp at ar
      have au:=zq3 f k 0 P.out ar;rw[au]at d;have av:=(zi7 (by rw[P.out];exact U.out):KeysAt u u7 f);obtain⟨g,cp,rfl⟩:=zf0 U.out;have p0:u.cell? ⟨g,k,none⟩=some (.int .i64 f[k]):=by
       rcases av with⟨_,_,e,e'⟩|⟨b',o',cx,e,bp⟩
       ·exact absurd e' bh
       ·injection e with e1;injection e1 with e1;injection e1 with e1 e2;subst e1 e2;have:=bp k ar;simpa using this
      clear av;generalize f[k]=y at p0 d;have c6:(0:Int)<(k:Int)+1:=by omega
      have c8:(k:Int)<(k:Int)+1:=by omega
      have c9:(0:Int)<=(k:Int):=by omega
      have da:IntKind.i64.wrap (k:Int)=(k:Int):=IntWalk.i64_in _ (by have:=O.out;omega);clear au ar;by_cases b4:x<=y
      ·rw[if_pos ⟨bh,by simpa using b4⟩]at d;have i:Hid (R=([],9,k+1)):=d.symm;clear d;have S:=p.c0;have T:=p.c1;have jz:=p.fz;go_wp2;refine bodyPost_ret (v:=.tuple #[.slice none 0 0,.agg #[.int .i64 9,.int .i64 ((k+1:Nat):Int)]]) (by simp[results,Tryz.results81,go_sem,S,T]) rfl ⟨(ae.setCell (by simp) _).setCell (by simp) _,Or.inr ⟨?_,((k+1:Nat):Int),?_,?_,?_⟩⟩
       ·rw[q.out,i.out,endG,if_pos (by simp)];simp
       ·rw[q.out,i.out,endG,if_pos (by simp)];rfl
       ·rw[q.out,i.out,endG,if_pos (by simp)];intro h;cases h
       ·rw[q.out,i.out,endG,if_pos (by simp)];intro k h;injection h with h;rw[<-h]
      ·rw[if_neg (fun e=>b4 (by simpa using e.2))]at d;have bf:Hid (rowsG goneK ((m.map (·.data.toList)).drop (k+1+1)) (k+1+1) (f++ [x])=R):=d;clear d;have ax:BL u (u.alloc (.cells #[.int .i64 x] 3)):=alB _ _;have F:BL o (u.alloc (.cells #[.int .i64 x] 3)):=ai.alloc ai.size _
       go_wp2_with (at_builtin;refine wpList_append_own _ rfl _ _ 69 rfl o.heap.size 3 i0 (.int .i64 0) 1 8 Tryz.underlying69 b5 b6 b7 bi rfl (by decide) _ (k+1) (f.map (Value.int .i64)) rfl ?qd0 ⟨u.heap.size,0,none⟩ 1 1 [.int .i64 x] rfl ?qd1 ?qd2 ?qd3 ?qd4 ?qd5 ?qd6 ?_)
       case qd0=>exact za2 U.out ax
       case qd1=>rfl
       case qd2=>exact zb6 _ _ _
       case qd3=>exact zd1 [x]
       case qd4=>have:=O.out;unfold maxLen;omega
       case qd5=>have:=O.out;omega
       case qd6=>first | exact F.size | (have:=ai.size;omega)
       intro v6 w6 Q G an;have bg:BL o w6:=F.grown G F.size (fun k hk=>by
        rcases U.out.2 with⟨e,_⟩|⟨g',cf,cu,e,cv,_⟩
        ·rw[e]at hk;simp[Value.ownBlock]at hk
        ·rw[e]at hk;simp[Value.ownBlock]at hk;omega)
       have Y:Hid (w6.ownsRow o.heap.size 3 1 v6 ((k+1)+1) (f.map (Value.int .i64)++ [.int .i64 x])):=Q;clear Q an G;go_wp2;go_roundw
       case rel=>exact ⟨(k+1)+1,f++ [x],by omega,by go_num,by rw[List.length_append,P.out];rfl,bg,by rw[List.map_append];exact Y.out,bf.out⟩
       case measure=>simp [intOf]<;>omega
def FKPost (w:World) (a:Nat->Addr) (D:List Int×Nat) (e:Ending) (w':World):Prop :=
 BL w w'/\((D.2=0/\∃v,e= .returned (.tuple #[v,.nilIface])/\KeysAt w' v D.1) \/
  (D.2≠0/\∃ev,e= .returned (.tuple #[.slice none 0 0,ev])/\(ev=errV a D.2\/∃fb,ev= .iface 101 (.pointer (some ⟨fb,0,none⟩))/\w'.cell? ⟨fb,1,none⟩=some (errV a D.2))))
theorem zb6r (s:ByteArray) (w:World) (a:Nat->Addr) (h:EnvD0 w a) (z:s.size<=maxLen) :
  Calls Tryz.prog 140 #[.string (bytesOf (kindL true)),.string s] w fun e w'=>FKPost w a (keysF true s.data.toList) e w':=by
 have b:=za4e s w a h z;have i:keysF true s.data.toList=((goneO s.data.toList).1,(goneO s.data.toList).2.1):=rfl;rw[i];generalize goneO s.data.toList=D at b ⊢;have o:=za6 (s:=bytesOf (kindL true)) (l:= [103,111,110,101]) (by rw[zc8];rfl);generalize bytesOf (kindL true)=B at o ⊢;clear i
 go_enter Tryz.func140,Tryz.ntmps140
 go_wp2_with fail
 refine b.mono ?_;rintro e j ⟨c,g⟩;clear b;rcases g with⟨d,v,rfl,k,_⟩|⟨d,t,u,rfl⟩|⟨d,t,A,u,m,rfl,y,n⟩
 ·have p:Hid (KeysAt j v D.1):=k;clear k;go_wp2;go_ret2;exact⟨c,Or.inl ⟨d,v,rfl,p.out⟩⟩
 ·obtain⟨E,f⟩:∃E,D.2.1=E+1:=⟨D.2.1-1,by omega⟩;have q:Hid (D.2.1=E+1):=f;rw[f];simp only[errV];clear f;go_wp2;go_ret2;exact⟨c,Or.inr ⟨d,_,rfl,Or.inl (by dsimp only;rw[q.out];rfl)⟩⟩
 ·have r:Hid (j.cell? ⟨m,1,none⟩=some (errV a D.2.1)):=n;clear y n;go_wp2;go_ret2;exact⟨c,Or.inr ⟨d,_,rfl,Or.inr ⟨m,rfl,r.out⟩⟩⟩
theorem zm3 (l:List UInt8):(readO l).2<=12:=by
 unfold readO;split
 ·split
  ·split
   ·exact Nat.zero_le _
   ·dsimp only;unfold rowE;split
    ·split<;>omega
    ·omega
  ·exact(by decide:(1:Nat)<=12)
 ·exact(by decide:(1:Nat)<=12)
theorem zj3 (xs:List Rw):(keysR xs).length=xs.length:=by simp[keysG]
theorem zb6s (xs:List Rw) (j:Nat) (h:j<xs.length) (b:j<(keysR xs).length):(keysR xs)[j]=xs[j].2.1:=by simp[keysG,dataK]
theorem zb6t (s:ByteArray) (w:World) (a:Nat->Addr) (h:EnvD w a) (hs:s.size<=maxLen) :
  Calls Tryz.prog 140 #[.string (bytesOf (kindL false)),.string s] w fun e w'=>FKPost w a (keysF false s.data.toList) e w':=by
 have A:=za3q s w a h hs;have z:=(zg9 dataK zm3 s.data.toList).2;have eK:keysF false s.data.toList=(keysR (dataO s.data.toList).1,(dataO s.data.toList).2.1):=rfl;have e0:dataO s.data.toList=readG dataK s.data.toList:=rfl;rw[eK];rw[<-e0]at z;generalize dataO s.data.toList=D at A z ⊢;have d1:=za7 (s:=bytesOf (kindL false)) (l:= [103,111,110,101]) (by rw[zc8];decide);generalize bytesOf (kindL false)=kB at d1 ⊢;clear eK e0
 go_enter Tryz.func140,Tryz.ntmps140
 go_wp2_with fail
 refine A.mono ?_;rintro e f ⟨J,ad⟩;clear A;rcases ad with⟨y,v,rfl,O⟩|⟨y,h1,h2,rfl⟩|⟨y,h1,ap,h2,fb,rfl,M,I⟩
 ·obtain⟨q,ak,rfl⟩:=O.form;obtain⟨g,d2⟩:=D;dsimp only at y O z ⊢;obtain⟨L,hL⟩:∃L,g.length=L:=⟨_,rfl⟩;have HV:Hid (RowsAt f (.slice q g.length ak) g):=O;have HX:Hid (g.length=L):=hL;have H0:Hid (d2.1=0):=y;rw[hL]at z ⊢;clear O hL y;have ae:=fun W=>run_make_row' (P:=Tryz.prog) 69 3 (.int .i64 0) 8 Tryz.underlying69 Tryz.numsInfo rfl .i64 .i64 L (by omega) (by omega) W;have Q:BL f (f.alloc (.cells (madeCells #[.int .i64 0] L) 3)):=alB _ _;have B:=heap_alloc_new f (.cells (madeCells #[.int .i64 0] L) 3);have MD:Hid (∀j,j<L->(madeCells #[.int .i64 0] L)[j]? =some (.int .i64 0)):=fun j hj=>za3e _ _ _ hj;go_wp2
  go_loopw [30] (fun k wr=> ∃(n:Nat) (d:Array Value),n<=L/\k= .int .i64 n/\BL f wr/\wr.heap[f.heap.size]? =some (.cells d 3 (0,0))/\(∀j,j<L->∃u,d[j]? =some u)/\∀j (h:j<g.length),j<n->d[j]? =some (.int .i64 g[j].2.1)) (fun k _=>L-(intOf k).toNat)
  case atStart=>exact ⟨0,_,by omega,rfl,Q,B,fun j hj=>⟨_,MD.out j hj⟩,fun j h K=>absurd K (Nat.not_lt_zero _)⟩
  case round =>
   clear Q B ae;obtain⟨n,d,hn,rfl,H,Y,Z,aa⟩:=hrel;have HB:Hid (wr.heap[f.heap.size]? =some (.cells d 3 (0,0))):=Y;have R:Hid (∀j,j<L->∃u,d[j]? =some u):=Z;have S:Hid (∀j (h:j<g.length),j<n->d[j]? =some (.int .i64 g[j].2.1)):=aa;clear Y Z aa;by_cases T:n<L
   ·have C:n<g.length:=by rw[HX.out];exact T
    have hi:(n:Int)<(L:Int):=by omega
    have al:(0:Int)<=(n:Int):=by omega
    have af:=HV.out;rcases af with⟨p,c,e,rfl⟩|⟨b,o,cp,e,hc⟩
    ·simp at C
    ·simp only[Value.slice.injEq]at e;obtain⟨rfl,_,rfl⟩:=e;obtain⟨M,I,c2⟩:=hc n C;have U:=za0 H M;have V:=za0 H I;have X:=za0 H c2;have ag:Hid (∃x,g[n]=x):=⟨_,rfl⟩;generalize ab:g[n]=x at U V X;have ah:Hid (g[n]=x):=ab;clear ab M I c2 hc ag;obtain⟨r,i,t⟩:=x;dsimp only at U V X;have F:BL wr (wr.alloc (.cells #[.string r,.int .i64 i,.int .i64 t] 112)):=alB _ _;have ai:BL f (wr.alloc (.cells #[.string r,.int .i64 i,.int .i64 t] 112)):=trB H F;have m:(wr.alloc (.cells #[.string r,.int .i64 i,.int .i64 t] 112)).heap[f.heap.size]? =some (.cells d 3 (0,0)):=(F.block _ (lt_of_block HB.out)).trans HB.out;obtain⟨u,N⟩:=R.out n T;have am:(wr.alloc (.cells #[.string r,.int .i64 i,.int .i64 t] 112)).cell? ⟨f.heap.size,n,none⟩=some u:=by rw[cell_of_row _ _ _ _ _ _ m];exact N
     have an:(wr.alloc (.cells #[.string r,.int .i64 i,.int .i64 t] 112)).frozen? ⟨f.heap.size,n,none⟩=false:=frozen_of_row _ _ _ _ _ m;have ac:Hid (((wr.alloc (.cells #[.string r,.int .i64 i,.int .i64 t] 112)).setCell ⟨f.heap.size,n,none⟩ (.int .i64 i)).heap[f.heap.size]? =some (.cells (d.setIfInBounds n (.int .i64 i)) 3 (0,0))):=heap_setCell_same _ f.heap.size n d 3 (.int .i64 i) m;have HN:Hid (n<d.size):=by
      show n<d.size;rcases Nat.lt_or_ge n d.size with K | K
      ·exact K
      ·rw[Array.getElem?_eq_none K]at N;cases N
     have aj:BL f ((wr.alloc (.cells #[.string r,.int .i64 i,.int .i64 t] 112)).setCell ⟨f.heap.size,n,none⟩ (.int .i64 i)):=ai.setCell (Nat.le_refl _) _;have ao:((n:Int)*3).toNat=n*3:=by omega
     clear m N F;go_wp2;go_roundw
     case rel =>
      refine⟨n+1,_,by omega,by go_num,aj,ac.out,fun j hj=>?_,fun j hj hjn=>?_⟩
      ·rw[Array.getElem?_setIfInBounds];split
       ·rw[if_pos HN.out];exact⟨_,rfl⟩
       ·exact R.out j hj
      ·rw[Array.getElem?_setIfInBounds];split
       ·rename_i e;subst e;rw[if_pos HN.out,ah.out]
       ·rename_i e;exact S.out j hj (by omega)
     case measure=>simp [intOf];omega
   ·obtain rfl:n=L:=by omega
    go_wp2;go_ret2;refine⟨(trB J H),Or.inl ⟨H0.out,_,rfl,Or.inr ⟨f.heap.size,0,n,by rw[zj3,HX.out];rfl,fun j hj=>?_⟩⟩⟩;have G:j<g.length:=by rw[zj3]at hj;exact hj
    rw[Nat.zero_add,cell_of_row _ _ _ _ _ _ HB.out,S.out j G (by rw[<-HX.out];exact G),zb6s _ _ G hj]
 ·obtain⟨E,hE⟩:∃E,D.2.1=E+1:=⟨D.2.1-1,by omega⟩;have HE:Hid (D.2.1=E+1):=hE;rw[hE];simp only[errV];clear hE;go_wp2;go_ret2;exact⟨J,Or.inr ⟨y,_,rfl,Or.inl (by dsimp only;rw[HE.out];rfl)⟩⟩
 ·have C1:Hid (f.cell? ⟨fb,1,none⟩=some (errV a D.2.1)):=I;clear M I;go_wp2;go_ret2;exact⟨J,Or.inr ⟨y,_,rfl,Or.inr ⟨fb,rfl,C1.out⟩⟩⟩
theorem zb6u (n:Nat) (w:World) (a:Nat->Addr) (h:Hand w) :
  Calls Tryz.prog 58 #[errV a (n+1)] w fun e w'=>e= .returned (errV a (n+1))/\BL w w':=by
 have b:BL w (w.alloc (.cells #[.pointer none] 101)):=alB _ _;have c:=za4s (a n) ⟨w.heap.size,0,none⟩ _ (h.below b);simp only[errV]
 go_enter Tryz.func58,Tryz.ntmps58
 go_wp2_with fail
 refine c.mono ?_;rintro e g ⟨rfl,f⟩;clear c;have d:BL w g:=trB b f;go_wp2;go_ret;exact⟨rfl,d⟩
theorem zb6v (c:Nat) (n:Nat) (w:World) (a:Nat->Addr) (h:Hand w) (f:w.cell? ⟨c,1,none⟩=some (errV a (n+1))) :
  Calls Tryz.prog 58 #[.iface 101 (.pointer (some ⟨c,0,none⟩))] w fun e w'=>e= .returned (errV a (n+1))/\BL w w':=by
 have d:=za4v ⟨c,0,none⟩ w h;simp only[errV]at f ⊢
 go_enter Tryz.func58,Tryz.ntmps58
 go_wp2_with fail
 refine d.mono ?_;rintro e i ⟨rfl,b,j⟩;clear d;have g:=za0 b f;go_wp2;go_ret;exact⟨rfl,b⟩
theorem zb6w (g:Bool) (s:ByteArray) (w:World) (a:Nat->Addr) (h:EnvD w a) (b:s.size<=maxLen) :
  Calls Tryz.prog 140 #[.string (bytesOf (kindL g)),.string s] w fun e w'=>FKPost w a (keysF g s.data.toList) e w':=by
 cases g
 ·exact zb6t s w a h b
 ·exact zb6r s w a h.weak b
theorem za5w (E:Nat) (b:Value) (w:World) (a:Nat->Addr) (h:Hand w) (d:b=errV a (E+1)\/∃fb,b= .iface 101 (.pointer (some ⟨fb,0,none⟩))/\w.cell? ⟨fb,1,none⟩=some (errV a (E+1))) :
  Calls Tryz.prog 58 #[b] w fun e w'=>e= .returned (errV a (E+1))/\BL w w':=by
 rcases d with rfl | ⟨fb,rfl,c⟩
 ·exact zb6u E w a h
 ·exact zb6v fb E w a h c
theorem zb6x (b o d:Nat) (c:List Int) (w:World) (f:c≠ []) (n:c.length<=100000) (m:∀j (h:j<c.length),w.cell? ⟨b,o+j,none⟩=some (.int .i64 c[j])) :
  Calls Tryz.prog 141 #[.slice (some ⟨b,o,none⟩) c.length d] w (fun e w'=>e= .returned (.int .i64 (endsZ c).1)/\w'=w) /\
  Calls Tryz.prog 142 #[.slice (some ⟨b,o,none⟩) c.length d] w (fun e w'=>e= .returned (.int .i64 (endsZ c).2)/\w'=w):=by
 have i:0<c.length:=List.length_pos_iff.2 f;have g:∀j,j<c.length->w.cell? ⟨b,o+j,none⟩=some (.int .i64 (c.getD j 0)):=fun j hj=>by
  rw[m j hj];simp[List.getD,hj]
 have k:=Tryz.slices_Min_int b o c.length d c w i (Nat.le_refl _) (by omega) g;have l:=Tryz.slices_Max_int b o c.length d c w i (Nat.le_refl _) (by omega) g;rw[List.take_length,(za2t f).1]at k;rw[List.take_length,(za2t f).2]at l;exact⟨k,l⟩
theorem za5x {p q:ByteArray} {s:List UInt8} {b:Int} (h:pathO p.data.toList=none):ofF p q s b=(zeroF,5):=by unfold ofF;rw[h]
theorem zz4 {p q:ByteArray} {s:List UInt8} {b:Int} {g:Bool} {n:Int} (h:pathO p.data.toList=some (g,n)):ofF p q s b=if (keysF g s).2=0 then chkF (p,q,(keysF g s).1.length,(endsZ (keysF g s).1).1,(endsZ (keysF g s).1).2,b) else (zeroF,(keysF g s).2):=by unfold ofF;rw[h]
theorem za5y (s:List UInt8):(goneO s).1.length<=40:=(zg9 goneK (fun l=>by
 show (keyO l).2<=12;unfold keyO;split
 ·exact(by decide:(1:Nat)<=12)
 ·split
  ·exact Nat.zero_le _
  ·exact(by decide:(2:Nat)<=12)) s).2
theorem za5z (g:Bool) (s:List UInt8):(keysF g s).1.length<=40:=by
 cases g
 ·show (keysR (dataO s).1).length<=40;rw[zj3];exact(zg9 dataK zm3 s).2
 ·exact za5y s
theorem zb6y (p q s:ByteArray) (d:Int) (w:World) (a:Nat->Addr) (h:EnvF w a) (a6:∀g n,pathO p.data.toList=some (g,n)->(keysF g s.data.toList).2≠0->Hand w) (h1:p.size<=100000) (h2:q.size<=100000) (hs:s.size<=maxLen) :
  Calls Tryz.prog 100 #[.string p,.string q,.string s,.int .i64 d] w fun e w'=>e= .returned (.tuple #[flV (ofF p q s.data.toList d).1,errV a (ofF p q s.data.toList d).2])/\BL w w':=by
 have aa:BL w (w.alloc (.cells #[.string ⟨#[]⟩,.string ⟨#[]⟩,.int .i64 0,.int .i64 0,.int .i64 0,.int .i64 0] 43)):=alB _ _;have ae:FlAt (w.alloc (.cells #[.string ⟨#[]⟩,.string ⟨#[]⟩,.int .i64 0,.int .i64 0,.int .i64 0,.int .i64 0] 43)) w.heap.size zeroF:=FlAt.new w zeroF;have af:=zb4p p _ a (h.below aa).data.env h1;generalize hR:ofF p q s.data.toList d=R;have HR:Hid (ofF p q s.data.toList d=R):=hR;clear hR;have zero:∀W,FlAt W w.heap.size zeroF->(W.cell? ⟨w.heap.size,0,none⟩=some (.string ⟨#[]⟩)/\W.cell? ⟨w.heap.size,1,none⟩=some (.string ⟨#[]⟩)/\W.cell? ⟨w.heap.size,2,none⟩=some (.int .i64 0)/\W.cell? ⟨w.heap.size,3,none⟩=some (.int .i64 0)/\W.cell? ⟨w.heap.size,4,none⟩=some (.int .i64 0)/\W.cell? ⟨w.heap.size,5,none⟩=some (.int .i64 0)/\∀o,W.frozen? ⟨w.heap.size,o,none⟩=false):=fun W hW=>hW.cells;have C:Hid (∀W,FlAt W w.heap.size zeroF->(W.cell? ⟨w.heap.size,0,none⟩=some (.string ⟨#[]⟩)/\W.cell? ⟨w.heap.size,1,none⟩=some (.string ⟨#[]⟩)/\W.cell? ⟨w.heap.size,2,none⟩=some (.int .i64 0)/\W.cell? ⟨w.heap.size,3,none⟩=some (.int .i64 0)/\W.cell? ⟨w.heap.size,4,none⟩=some (.int .i64 0)/\W.cell? ⟨w.heap.size,5,none⟩=some (.int .i64 0)/\∀o,W.frozen? ⟨w.heap.size,o,none⟩=false)):=zero;clear zero
 go_enter Tryz.func100,Tryz.ntmps100
 go_wp2_with fail
 generalize w.alloc (.cells #[.string ⟨#[]⟩,.string ⟨#[]⟩,.int .i64 0,.int .i64 0,.int .i64 0,.int .i64 0] 43)=WA at aa ae af ⊢;refine af.mono ?_;rintro e w1 ⟨rfl,aq⟩;clear af;have ag:BL w w1:=trB aa aq;have ah:=ae.below aq;have av:Hid (FlAt w1 w.heap.size zeroF):=ah;clear ae aq aa ah
 cases hp:pathO p.data.toList with
 | none =>
  have c:=HR.out;rw[za5x hp]at c;subst c;rw[zf9 hp];simp only[errV,bytesOf];obtain⟨H,I,J,M,N,O,yf⟩:=C.out w1 av.out;have s0:=za1 H;have s1:=za1 I;have s2:=za1 J;have s3:=za1 M;have s4:=za1 N;have s5:=za1 O;clear hp;go_wp2;exact bodyPost_ret (v:=.tuple #[.agg #[.string ⟨#[]⟩,.string ⟨#[]⟩,.int .i64 0,.int .i64 0,.int .i64 0,.int .i64 0],.iface 325 (.pointer (some (a 4)))]) (by simp[results,Tryz.results100,go_sem,H,I,J,M,N,O]) rfl ⟨rfl,ag⟩
 | some gn =>
  obtain⟨g,k⟩:=gn;have c:=HR.out;rw[zz4 hp]at c;rw[zd0 hp];have ai:=zb6w g s w1 a (h.below ag).data hs;have D:=za5z g s.data.toList;have r:=a6 g k hp;clear a6 hp;simp only[errV];generalize keysF g s.data.toList=K at c ai D r;obtain⟨A,E⟩:=K;dsimp only at c D r
  go_wp2_with fail
  refine ai.mono ?_;rintro e l ⟨a2,ar⟩;clear ai;have ab:BL w l:=trB ag a2;have aj:Hid (FlAt l w.heap.size zeroF):=av.out.below a2;dsimp only at ar;rcases ar with⟨h0,v,rfl,hv⟩|⟨h0,ev,rfl,au⟩
  ·rw[if_pos h0]at c;obtain⟨L,hL⟩:∃L,A.length=L:=⟨_,rfl⟩;have HL:Hid (A.length=L):=hL;obtain⟨vq,vc,rfl⟩:=hv.form;rw[hL]at c D ⊢;clear h0 r hL;have F:BL l (l.alloc (.cells #[.string p,.string q,.int .i64 L,.int .i64 0,.int .i64 0,.int .i64 d] 43)):=alB _ _;have G:=FlAt.new l (p,q,(L:Int),0,0,d);have ak:=aj.out.below F;dsimp only at G;have al:BL w (l.alloc (.cells #[.string p,.string q,.int .i64 L,.int .i64 0,.int .i64 0,.int .i64 d] 43)):=trB ab F;by_cases hz:A= []
   ·subst hz;have a8:L=0:=by rw[<-HL.out];rfl
    subst a8;have e0:endsZ []=(0,0):=rfl;rw[e0]at c;dsimp only at c;have i:=za4l (p,q,((0:Nat):Int),0,0,d) _ a (h.below al).lean h1 h2;rw[c]at i;unfold flV at i;dsimp only at i;obtain⟨x0,x1,x2,x3,x4,x5,_⟩:=G.cells;dsimp only at x0 x1 x2 x3 x4 x5;obtain⟨⟨P,Q,S,y,z,m⟩,rE⟩:=R;dsimp only at i;have aw:Hid (FlAt (l.alloc (.cells #[.string p,.string q,.int .i64 ((0:Nat):Int),.int .i64 0,.int .i64 0,.int .i64 d] 43)) w.heap.size zeroF):=ak;clear c hv F G ak HL D e0
    go_wp2_with fail
    generalize l.alloc (.cells #[.string p,.string q,.int .i64 ((0:Nat):Int),.int .i64 0,.int .i64 0,.int .i64 d] 43)=WF at i al x0 x1 x2 x3 x4 x5 aw ⊢;refine i.mono ?_;rintro e w5 ⟨rfl,B⟩;clear i x0 x1 x2 x3 x4 x5;have am:BL w w5:=trB al B;have t:=aw.out.below B;obtain⟨H,I,J,M,N,O,yf⟩:=C.out w5 t;obtain⟨T,U,V,X,Y,Z,_⟩:=(t.set (P,Q,S,y,z,m)).cells;have u:=zl5 (f:=(P,Q,S,y,z,m)) am (Nat.le_refl w.heap.size);unfold flSet at T U V X Y Z u;dsimp only at T U V X Y Z u;clear t;go_wp2;exact bodyPost_ret (v:=.tuple #[.agg #[.string P,.string Q,.int .i64 S,.int .i64 y,.int .i64 z,.int .i64 m],errV a rE]) (by simp[results,Tryz.results100,go_sem,T,U,V,X,Y,Z]) rfl ⟨rfl,u⟩
   ·have ba:0<L:=by rw[<-HL.out];exact List.length_pos_iff.2 hz
    obtain⟨b,o,a0,a1,hc⟩:∃b o a0,Value.slice vq A.length vc= .slice (some ⟨b,o,none⟩) A.length a0/\∀j (h:j<A.length),l.cell? ⟨b,o+j,none⟩=some (.int .i64 A[j]):=by
     rcases hv with⟨_,_,_,e⟩ | hv
     ·exact absurd e hz
     ·exact hv
    simp only[Value.slice.injEq,true_and]at a1;obtain⟨rfl,rfl⟩:=a1;obtain⟨ac,ad⟩:=zb6x b o vc A (l.alloc (.cells #[.string p,.string q,.int .i64 L,.int .i64 0,.int .i64 0,.int .i64 d] 43)) hz (by rw[HL.out];omega) (fun j hj=>za0 F (hc j hj));rw[HL.out]at ac ad;generalize (endsZ A).1=lo at ac c;generalize (endsZ A).2=hi at ad c;have bb:(0:Int)<(L:Int):=by omega
    obtain⟨x0,x1,x2,x3,x4,x5,xf⟩:=G.cells;dsimp only at x0 x1 x2 x3 x4 x5;have an:=FlAt.new l (p,q,(L:Int),lo,hi,d);dsimp only at an;have ao:BL l (l.alloc (.cells #[.string p,.string q,.int .i64 L,.int .i64 lo,.int .i64 hi,.int .i64 d] 43)):=alB _ _;have ax:=aj.out.below ao;have ay:BL w (l.alloc (.cells #[.string p,.string q,.int .i64 L,.int .i64 lo,.int .i64 hi,.int .i64 d] 43)):=trB ab ao;have i:=za4l (p,q,(L:Int),lo,hi,d) _ a (h.below ay).lean h1 h2;rw[c]at i;unfold flV at i;dsimp only at i;obtain⟨g0,g1,g2,g3,g4,g5,_⟩:=an.cells;dsimp only at g0 g1 g2 g3 g4 g5;obtain⟨⟨P,Q,S,y,z,m⟩,rE⟩:=R;dsimp only at i;have az:Hid (FlAt (l.alloc (.cells #[.string p,.string q,.int .i64 L,.int .i64 lo,.int .i64 hi,.int .i64 d] 43)) w.heap.size zeroF):=ax;clear c hv F G ak an ax D hc hz ao
    go_wp2_with fail
    refine ac.mono ?_;rintro e w3 ⟨rfl,a3⟩;rw[a3];clear ac a3
    go_wp2_with fail
    refine ad.mono ?_;rintro e w4 ⟨rfl,a4⟩;rw[a4];clear ad a4
    go_wp2_with fail
    refine i.mono ?_;rintro e w5 ⟨rfl,B⟩;have am:BL w w5:=trB ay B;have t:=az.out.below B;clear i x0 x1 x2 x3 x4 x5 g0 g1 g2 g3 g4 g5 az;obtain⟨H,I,J,M,N,O,yf⟩:=C.out w5 t;obtain⟨T,U,V,X,Y,Z,_⟩:=(t.set (P,Q,S,y,z,m)).cells;have u:=zl5 (f:=(P,Q,S,y,z,m)) am (Nat.le_refl w.heap.size);unfold flSet at T U V X Y Z u;dsimp only at T U V X Y Z u;clear t B;go_wp2;exact bodyPost_ret (v:=.tuple #[.agg #[.string P,.string Q,.int .i64 S,.int .i64 y,.int .i64 z,.int .i64 m],errV a rE]) (by simp[results,Tryz.results100,go_sem,T,U,V,X,Y,Z]) rfl ⟨rfl,u⟩
  ·rw[if_neg h0]at c;subst c;obtain⟨j,rfl⟩:∃j,E=j+1:=⟨E-1,by omega⟩;have ap:=za5w j ev l a ((r h0).below ab) au;have a7:∃ty pv,ev= .iface ty pv:=by
    rcases au with rfl | ⟨fb,rfl,_⟩
    ·exact⟨_,_,rfl⟩
    ·exact⟨_,_,rfl⟩
   obtain⟨ty,pv,rfl⟩:=a7;simp only[errV,bytesOf]at ap ⊢;clear r au h0
   go_wp2_with fail
   refine ap.mono ?_;rintro e w3 ⟨rfl,a5⟩;clear ap;have a9:BL w w3:=trB ab a5;obtain⟨H,I,J,M,N,O,yf⟩:=C.out w3 (aj.out.below a5);have s0:=za1 H;have s1:=za1 I;have s2:=za1 J;have s3:=za1 M;have s4:=za1 N;have s5:=za1 O;go_wp2;exact bodyPost_ret (v:=.tuple #[.agg #[.string ⟨#[]⟩,.string ⟨#[]⟩,.int .i64 0,.int .i64 0,.int .i64 0,.int .i64 0],.iface 325 (.pointer (some (a j)))]) (by simp[results,Tryz.results100,go_sem,H,I,J,M,N,O]) rfl ⟨rfl,a9⟩
theorem zz5 (p q s:ByteArray) (b:Int) (w:World) (h1:p.size<=100000) (h2:q.size<=100000) (hs:s.size<=maxLen) :
  Calls Tryz.prog 34 #[.string p,.string q,.string s,.int .i64 b] w fun e w'=>e= .returned (.tuple #[flV (ofF p q s.data.toList b).1,.int .i64 (ofF p q s.data.toList b).2])/\BL w w':=by
 have aa:BL w (w.alloc (.cells #[.string ⟨#[]⟩,.string ⟨#[]⟩,.int .i64 0,.int .i64 0,.int .i64 0,.int .i64 0] 43)):=alB _ _;have am:FlAt (w.alloc (.cells #[.string ⟨#[]⟩,.string ⟨#[]⟩,.int .i64 0,.int .i64 0,.int .i64 0,.int .i64 0] 43)) w.heap.size zeroF:=FlAt.new w zeroF;have an:=zq6 p (w.alloc (.cells #[.string ⟨#[]⟩,.string ⟨#[]⟩,.int .i64 0,.int .i64 0,.int .i64 0,.int .i64 0] 43)) h1;generalize hR:ofF p q s.data.toList b=R;have HR:Hid (ofF p q s.data.toList b=R):=hR;clear hR;have O:Hid (∀W,FlAt W w.heap.size zeroF->(W.cell? ⟨w.heap.size,0,none⟩=some (.string ⟨#[]⟩)/\W.cell? ⟨w.heap.size,1,none⟩=some (.string ⟨#[]⟩)/\W.cell? ⟨w.heap.size,2,none⟩=some (.int .i64 0)/\W.cell? ⟨w.heap.size,3,none⟩=some (.int .i64 0)/\W.cell? ⟨w.heap.size,4,none⟩=some (.int .i64 0)/\W.cell? ⟨w.heap.size,5,none⟩=some (.int .i64 0)/\∀o,W.frozen? ⟨w.heap.size,o,none⟩=false)):=fun W hW=>hW.cells;have C:=fun (L:Nat) (m n:Int) W=>za4k (p,q,(L:Int),m,n,b) W h1 h2;unfold flV at C;dsimp only at C
 go_enter Tryz.func34,Tryz.ntmps34
 go_wp2_with fail
 generalize w.alloc (.cells #[.string ⟨#[]⟩,.string ⟨#[]⟩,.int .i64 0,.int .i64 0,.int .i64 0,.int .i64 0] 43)=WA at aa am an ⊢;refine an.mono ?_;rintro e w1 ⟨rfl,aw⟩;rw[aw];clear an aw;have ao:Hid (FlAt WA w.heap.size zeroF):=am;clear am
 cases hp:pathO p.data.toList with
 | none =>
  have r:=HR.out;rw[za5x hp]at r;subst r;rw[zf9 hp];obtain⟨G,H,I,J,K,M,yf⟩:=O.out WA ao.out;have s0:=za1 G;have s1:=za1 H;have s2:=za1 I;have s3:=za1 J;have s4:=za1 K;have s5:=za1 M;clear hp C;go_wp2;exact bodyPost_ret (v:=.tuple #[.agg #[.string ⟨#[]⟩,.string ⟨#[]⟩,.int .i64 0,.int .i64 0,.int .i64 0,.int .i64 0],.int .i64 5]) (by simp[results,Tryz.results34,go_sem,G,H,I,J,K,M]) rfl ⟨rfl,aa⟩
 | some gn =>
  obtain⟨g,k⟩:=gn;have r:=HR.out;rw[zz4 hp]at r;rw[zd0 hp];have B:=za5z g s.data.toList;have aj:(bytesOf (kindL g)).data.toList=kindL g:=zc8 _;clear hp HR;cases g
  ·have d1:=za6 (s:=bytesOf (kindL false)) (l:= [100,97,116,97]) (by rw[aj];rfl);have P:=za5t s WA hs;have eK:keysF false s.data.toList=(keysR (dataO s.data.toList).1,(dataO s.data.toList).2.1):=rfl;rw[eK]at r B;generalize bytesOf (kindL false)=kB at d1 ⊢;generalize dataO s.data.toList=Dt at P r B;obtain⟨xs,E,pl⟩:=Dt;dsimp only at r B;have D:Hid ((if E=0 then chkF (p,q,(keysR xs).length,(endsZ (keysR xs)).1,(endsZ (keysR xs)).2,b) else (zeroF,E))=R):=r;clear aj eK r
   go_wp2_with fail
   refine P.mono ?_;rintro e i ⟨X,Y⟩;clear P;have ab:BL w i:=trB aa X;have ac:Hid (FlAt i w.heap.size zeroF):=ao.out.below X;dsimp only at Y;clear X aa;rcases Y with⟨Z,v,rfl,hv⟩|⟨Z,j,rfl,_,_⟩
   ·have HX:Hid (chkF (p,q,(keysR xs).length,(endsZ (keysR xs)).1,(endsZ (keysR xs)).2,b)=R):=by
     show _=_;rw[<-D.out,if_pos Z]
    have d:BL i (i.alloc (.cells #[.int .i64 0,.int .i64 (-1)] 53)):=alB _ _;have Q:BL w (i.alloc (.cells #[.int .i64 0,.int .i64 (-1)] 53)):=trB ab d;have ap:=zx2 v xs _ (hv.below d) (by rw[zj3]at B;omega);have aq:Hid (FlAt (i.alloc (.cells #[.int .i64 0,.int .i64 (-1)] 53)) w.heap.size zeroF):=ac.out.below d;clear hv d D Z
    go_wp2_with fail
    generalize i.alloc (.cells #[.int .i64 0,.int .i64 (-1)] 53)=WB at ap Q aq ⊢;refine ap.mono ?_;rintro e t ⟨kv,rfl,F,au⟩;clear ap;have ak:BL w t:=trB Q au;have al:Hid (FlAt t w.heap.size zeroF):=aq.out.below au;generalize keysR xs=c at F HX B;clear au Q aq
    go_wp2_with fail
    have u:=zq5 kv c t F (by unfold maxLen;omega);obtain⟨q3,c3,rfl⟩:=F.form;have y:Hid (R=if fileE (p,q,(c.length:Int),(endsZ c).1,(endsZ c).2,b)=0 then ((p,q,(c.length:Int),(endsZ c).1,(endsZ c).2,b),0) else (zeroF,fileE (p,q,(c.length:Int),(endsZ c).1,(endsZ c).2,b))):=HX.out.symm;clear HX F;generalize (endsZ c).1=m at u y;generalize (endsZ c).2=n at u y;generalize c.length=L at u y B ⊢;have S:BL t (t.alloc (.cells #[.string p,.string q,.int .i64 L,.int .i64 m,.int .i64 n,.int .i64 b] 43)):=alB _ _;have z:=FlAt.new t (p,q,(L:Int),m,n,b);dsimp only at z;have T:=al.out.below S;have ad:BL w (t.alloc (.cells #[.string p,.string q,.int .i64 L,.int .i64 m,.int .i64 n,.int .i64 b] 43)):=trB ak S;have U:=C L m n (t.alloc (.cells #[.string p,.string q,.int .i64 L,.int .i64 m,.int .i64 n,.int .i64 b] 43));refine u.mono ?_;rintro e w4 ⟨rfl,ai⟩;rw[ai];clear ai u C S
    go_wp2_with fail
    generalize t.alloc (.cells #[.string p,.string q,.int .i64 L,.int .i64 m,.int .i64 n,.int .i64 b] 43)=WF at U ad T z ⊢;generalize t.heap.size=BF at z ⊢;refine U.mono ?_;rintro e w5 ⟨rfl,N⟩;clear U;have ae:BL w w5:=trB ad N;have af:=T.below N;have ag:Hid (FlAt w5 w.heap.size zeroF):=af;obtain⟨x0,x1,x2,x3,x4,x5,_⟩:=(z.below N).cells;dsimp only at x0 x1 x2 x3 x4 x5;clear z T N af;have A:=y.out;clear y;generalize av:fileE (p,q,(L:Int),m,n,b)=Ef at A ⊢;clear av;obtain⟨G,H,I,J,K,M,yf⟩:=O.out w5 ag.out;by_cases he:Ef=0
    ·rw[if_pos he]at A;subst A;subst he;obtain⟨z0,z1,z2,z3,z4,z5,_⟩:=(ag.out.set (p,q,(L:Int),m,n,b)).cells;have V:=zl5 (f:=(p,q,(L:Int),m,n,b)) ae (Nat.le_refl w.heap.size);unfold flSet at z0 z1 z2 z3 z4 z5 V;dsimp only at z0 z1 z2 z3 z4 z5 V;go_wp2;exact bodyPost_ret (v:=.tuple #[.agg #[.string p,.string q,.int .i64 L,.int .i64 m,.int .i64 n,.int .i64 b],.int .i64 0]) (by simp[results,Tryz.results34,go_sem,z0,z1,z2,z3,z4,z5]) rfl ⟨rfl,V⟩
    ·rw[if_neg he]at A;subst A;have ar:(0:Int)<(Ef:Int):=by omega
     have s0:=za1 G;have s1:=za1 H;have s2:=za1 I;have s3:=za1 J;have s4:=za1 K;have s5:=za1 M;clear he x0 x1 x2 x3 x4 x5;go_wp2;exact bodyPost_ret (v:=.tuple #[.agg #[.string ⟨#[]⟩,.string ⟨#[]⟩,.int .i64 0,.int .i64 0,.int .i64 0,.int .i64 0],.int .i64 Ef]) (by simp[results,Tryz.results34,go_sem,G,H,I,J,K,M]) rfl ⟨rfl,ae⟩
   ·have hX:R=(zeroF,E):=by
     rw[<-D.out,if_neg Z]
    subst hX;have ar:(0:Int)<(E:Int):=by omega
    have d:BL i (i.alloc (.cells #[.int .i64 E,.int .i64 j] 53)):=alB _ _;have Q:BL w (i.alloc (.cells #[.int .i64 E,.int .i64 j] 53)):=trB ab d;have ah:FC (i.alloc (.cells #[.int .i64 E,.int .i64 j] 53)) i.heap.size E j:=heap_alloc_new _ _;obtain⟨G,H,I,J,K,M,yf⟩:=O.out _ (ac.out.below d);have s0:=za1 G;have s1:=za1 H;have s2:=za1 I;have s3:=za1 J;have s4:=za1 K;have s5:=za1 M;have k0:=ah.c0;clear d D C Z ah;go_wp2
    go_region
    all_goals go_wp2
    all_goals exact bodyPost_ret (v:=.tuple #[.agg #[.string ⟨#[]⟩,.string ⟨#[]⟩,.int .i64 0,.int .i64 0,.int .i64 0,.int .i64 0],.int .i64 E]) (by simp[results,Tryz.results34,go_sem,G,H,I,J,K,M]) rfl ⟨rfl,Q.drew⟩
  ·have d1:=za7 (s:=bytesOf (kindL true)) (l:= [100,97,116,97]) (by rw[aj];decide);have P:=za5v s WA hs;have eK:keysF true s.data.toList=((goneO s.data.toList).1,(goneO s.data.toList).2.1):=rfl;rw[eK]at r B;generalize bytesOf (kindL true)=kB at d1 ⊢;generalize goneO s.data.toList=Dt at P r B;obtain⟨c,E,pl⟩:=Dt;dsimp only at r B;have D:Hid ((if E=0 then chkF (p,q,c.length,(endsZ c).1,(endsZ c).2,b) else (zeroF,E))=R):=r;clear aj eK r
   go_wp2_with fail
   refine P.mono ?_;rintro e i ⟨X,Y⟩;clear P;have ab:BL w i:=trB aa X;have ac:Hid (FlAt i w.heap.size zeroF):=ao.out.below X;dsimp only at Y;clear X aa;rcases Y with⟨Z,kv,rfl,hv,_⟩|⟨Z,j,rfl,_,_⟩
   ·have HX:Hid (chkF (p,q,c.length,(endsZ c).1,(endsZ c).2,b)=R):=by
     show _=_;rw[<-D.out,if_pos Z]
    have d:BL i (i.alloc (.cells #[.int .i64 0,.int .i64 (-1)] 53)):=alB _ _;have ak:BL w (i.alloc (.cells #[.int .i64 0,.int .i64 (-1)] 53)):=trB ab d;have F:=hv.below d;have al:Hid (FlAt (i.alloc (.cells #[.int .i64 0,.int .i64 (-1)] 53)) w.heap.size zeroF):=ac.out.below d;clear hv d D Z
    go_wp2_with fail
    generalize i.alloc (.cells #[.int .i64 0,.int .i64 (-1)] 53)=t at F ak al ⊢;have u:=zq5 kv c t F (by unfold maxLen;omega);obtain⟨q3,c3,rfl⟩:=F.form;have y:Hid (R=if fileE (p,q,(c.length:Int),(endsZ c).1,(endsZ c).2,b)=0 then ((p,q,(c.length:Int),(endsZ c).1,(endsZ c).2,b),0) else (zeroF,fileE (p,q,(c.length:Int),(endsZ c).1,(endsZ c).2,b))):=HX.out.symm;clear HX F;generalize (endsZ c).1=m at u y;generalize (endsZ c).2=n at u y;generalize c.length=L at u y B ⊢;have S:BL t (t.alloc (.cells #[.string p,.string q,.int .i64 L,.int .i64 m,.int .i64 n,.int .i64 b] 43)):=alB _ _;have z:=FlAt.new t (p,q,(L:Int),m,n,b);dsimp only at z;have T:=al.out.below S;have ad:BL w (t.alloc (.cells #[.string p,.string q,.int .i64 L,.int .i64 m,.int .i64 n,.int .i64 b] 43)):=trB ak S;have U:=C L m n (t.alloc (.cells #[.string p,.string q,.int .i64 L,.int .i64 m,.int .i64 n,.int .i64 b] 43));refine u.mono ?_;rintro e w4 ⟨rfl,ai⟩;rw[ai];clear ai u C S
    go_wp2_with fail
    generalize t.alloc (.cells #[.string p,.string q,.int .i64 L,.int .i64 m,.int .i64 n,.int .i64 b] 43)=WF at U ad T z ⊢;generalize t.heap.size=BF at z ⊢;refine U.mono ?_;rintro e w5 ⟨rfl,N⟩;clear U;have ae:BL w w5:=trB ad N;have af:=T.below N;have ag:Hid (FlAt w5 w.heap.size zeroF):=af;obtain⟨x0,x1,x2,x3,x4,x5,_⟩:=(z.below N).cells;dsimp only at x0 x1 x2 x3 x4 x5;clear z T N af;have A:=y.out;clear y;generalize av:fileE (p,q,(L:Int),m,n,b)=Ef at A ⊢;clear av;obtain⟨G,H,I,J,K,M,yf⟩:=O.out w5 ag.out;by_cases he:Ef=0
    ·rw[if_pos he]at A;subst A;subst he;obtain⟨z0,z1,z2,z3,z4,z5,_⟩:=(ag.out.set (p,q,(L:Int),m,n,b)).cells;have V:=zl5 (f:=(p,q,(L:Int),m,n,b)) ae (Nat.le_refl w.heap.size);unfold flSet at z0 z1 z2 z3 z4 z5 V;dsimp only at z0 z1 z2 z3 z4 z5 V;go_wp2;exact bodyPost_ret (v:=.tuple #[.agg #[.string p,.string q,.int .i64 L,.int .i64 m,.int .i64 n,.int .i64 b],.int .i64 0]) (by simp[results,Tryz.results34,go_sem,z0,z1,z2,z3,z4,z5]) rfl ⟨rfl,V⟩
    ·rw[if_neg he]at A;subst A;have ar:(0:Int)<(Ef:Int):=by omega
     have s0:=za1 G;have s1:=za1 H;have s2:=za1 I;have s3:=za1 J;have s4:=za1 K;have s5:=za1 M;clear he x0 x1 x2 x3 x4 x5;go_wp2;exact bodyPost_ret (v:=.tuple #[.agg #[.string ⟨#[]⟩,.string ⟨#[]⟩,.int .i64 0,.int .i64 0,.int .i64 0,.int .i64 0],.int .i64 Ef]) (by simp[results,Tryz.results34,go_sem,G,H,I,J,K,M]) rfl ⟨rfl,ae⟩
   ·have hX:R=(zeroF,E):=by
     rw[<-D.out,if_neg Z]
    subst hX;have ar:(0:Int)<(E:Int):=by omega
    have d:BL i (i.alloc (.cells #[.int .i64 E,.int .i64 j] 53)):=alB _ _;have Q:BL w (i.alloc (.cells #[.int .i64 E,.int .i64 j] 53)):=trB ab d;have ah:FC (i.alloc (.cells #[.int .i64 E,.int .i64 j] 53)) i.heap.size E j:=heap_alloc_new _ _;obtain⟨G,H,I,J,K,M,yf⟩:=O.out _ (ac.out.below d);have s0:=za1 G;have s1:=za1 H;have s2:=za1 I;have s3:=za1 J;have s4:=za1 K;have s5:=za1 M;have k0:=ah.c0;clear d D C Z ah;go_wp2
    go_region
    all_goals go_wp2
    all_goals exact bodyPost_ret (v:=.tuple #[.agg #[.string ⟨#[]⟩,.string ⟨#[]⟩,.int .i64 0,.int .i64 0,.int .i64 0,.int .i64 0],.int .i64 E]) (by simp[results,Tryz.results34,go_sem,G,H,I,J,K,M]) rfl ⟨rfl,Q.drew⟩
end Go.Proofs.YtgckdomafbnmkaaGreatDoor
namespace Go.Proofs.YtgckdomafbnmkaaGreatDoor
open Go Go.Lib
def fileR (obs:List Ob) (x:Fl):Nat×ByteArray :=
 if (getT obs x.1).2≠0 then ((getT obs x.1).2,⟨#[]⟩) else
 if (ofF x.1 x.2.1 (getT obs x.1).1.data.toList x.2.2.2.2.2).2≠0 then ((ofF x.1 x.2.1 (getT obs x.1).1.data.toList x.2.2.2.2.2).2,⟨#[]⟩) else
 if (ofF x.1 x.2.1 (getT obs x.1).1.data.toList x.2.2.2.2.2).1≠x then (3,⟨#[]⟩) else (0,(getT obs x.1).1)
def addS (lo hi:Int) (x:Fl) (text:ByteArray) (acc:List (Rw×Int)):List (Rw×Int) :=
 if x.2.1.data.toList≠ [45] then acc++((dataO text.data.toList).1.filter (inB lo hi)).map fun r=>(r,x.2.2.2.2.2)
 else acc.filter fun p=> !((goneO text.data.toList).1.contains p.1.2.1 && decide (p.2<x.2.2.2.2.2))
def scanG (obs:List Ob) (lo hi:Int):List Fl->Nat->List (Rw×Int)->List (Rw×Int)×Nat×Option Nat
 | [],_,acc=>(acc,0,none)
 | x :: r,i,acc=>if inP lo hi x=false then scanG obs lo hi r (i+1) acc else
  if (fileR obs x).1≠0 then ([],(fileR obs x).1,some i) else scanG obs lo hi r (i+1) (addS lo hi x (fileR obs x).2 acc)
def rowsS (obs:List Ob) (s:Sn) (lo hi:Int):List Rw×Nat×Option Nat :=
 if (snapE s).1≠0 then ([],snapE s) else
 if (scanG obs lo hi s.2.2.2.2.2.2 0 []).2.1≠0 then ([],(scanG obs lo hi s.2.2.2.2.2.2 0 []).2) else
 (sortR ((scanG obs lo hi s.2.2.2.2.2.2 0 []).1.map (·.1)),0,none)
def ScanLeft (obs:List Ob) (lo hi:Int) (fs:List Fl) (n:Nat) (acc:List (Rw×Int)):Prop:=scanG obs lo hi fs 0 []=scanG obs lo hi (fs.drop n) n acc
theorem zb6z (obs:List Ob) (lo hi:Int) (b:List Fl):ScanLeft obs lo hi b 0 []:=rfl
section
variable {obs : List Ob} {lo hi : Int} {fs : List Fl} {n : Nat} {acc : List (Rw × Int)}
theorem zb7a (h:ScanLeft obs lo hi fs n acc) (b:n<fs.length) (e:inP lo hi fs[n]=false):ScanLeft obs lo hi fs (n+1) acc:=by
 unfold ScanLeft at h ⊢;rw[h,List.drop_eq_getElem_cons b]
 conv=>lhs;unfold scanG
 rw[if_pos e]
theorem zb7b (h:ScanLeft obs lo hi fs n acc) (c:n<fs.length) (e:inP lo hi fs[n]=true) (b:(fileR obs fs[n]).1≠0):scanG obs lo hi fs 0 []=([],(fileR obs fs[n]).1,some n):=by
 unfold ScanLeft at h;rw[h,List.drop_eq_getElem_cons c];unfold scanG;rw[if_neg (by rw[e];simp),if_pos b]
theorem zb7c (h:ScanLeft obs lo hi fs n acc) (c:n<fs.length) (e:inP lo hi fs[n]=true) (b:(fileR obs fs[n]).1=0):ScanLeft obs lo hi fs (n+1) (addS lo hi fs[n] (fileR obs fs[n]).2 acc):=by
 unfold ScanLeft at h ⊢;rw[h,List.drop_eq_getElem_cons c]
 conv=>lhs;unfold scanG
 rw[if_neg (by rw[e];simp),if_neg (by simpa using b)]
theorem zb7d (h:ScanLeft obs lo hi fs fs.length acc):scanG obs lo hi fs 0 []=(acc,0,none):=by
 unfold ScanLeft at h;rw[h,List.drop_length];rfl
end
theorem zm4 {lo hi:Int} {x:Fl} {b:ByteArray} {c:List (Rw×Int)} (h:x.2.1.data.toList≠ [45]):addS lo hi x b c=c++((dataO b.data.toList).1.filter (inB lo hi)).map fun r=>(r,x.2.2.2.2.2):=by unfold addS;rw[if_pos h]
theorem zm5 {lo hi:Int} {x:Fl} {b:ByteArray} {c:List (Rw×Int)} (h:x.2.1.data.toList= [45]):addS lo hi x b c=c.filter fun p=> !((goneO b.data.toList).1.contains p.1.2.1 && decide (p.2<x.2.2.2.2.2)):=by unfold addS;rw[if_neg (by simpa using h)]
end Go.Proofs.YtgckdomafbnmkaaGreatDoor
namespace Go.Proofs.YtgckdomafbnmkaaGreatDoor
open Go Go.Lib Go.Sort
abbrev minI:Int:= -9223372036854775808
abbrev maxI:Int:=9223372036854775807
theorem za6a {obs:List Ob} {x:Fl} (h:(fileR obs x).1=0):ofF x.1 x.2.1 (fileR obs x).2.data.toList x.2.2.2.2.2=(x,0):=by
 unfold fileR at h ⊢;by_cases c:(getT obs x.1).2≠0
 ·rw[if_pos c]at h;exact absurd h c
 ·rw[if_neg c]at h ⊢;by_cases b:(ofF x.1 x.2.1 (getT obs x.1).1.data.toList x.2.2.2.2.2).2≠0
  ·rw[if_pos b]at h;exact absurd h b
  ·rw[if_neg b]at h ⊢;by_cases d:(ofF x.1 x.2.1 (getT obs x.1).1.data.toList x.2.2.2.2.2).1≠x
   ·rw[if_pos d]at h;cases h
   ·rw[if_neg d];exact Prod.ext (by simpa using d) (by simpa using b)
theorem zb7e {obs:List Ob} {x:Fl} (h:(fileR obs x).1=0):∃g n,pathO x.1.data.toList=some (g,n)/\partB g x.2.1.data.toList=true/\bndB x=true/\∀k∈(keysF g (fileR obs x).2.data.toList).1,x.2.2.2.1<=k/\k<=x.2.2.2.2.1:=by
 have b:=za6a h;generalize (fileR obs x).2.data.toList=t at b ⊢;unfold ofF at b;split at b
 ·cases b
 ·rename_i g n i;split at b
  ·rename_i j;unfold chkF at b;split at b
   ·rename_i p;obtain⟨f,_⟩:=Prod.mk.inj b;have l:fileE x=0:=by rw[<-f];exact p
    obtain⟨q,r,c,m,o⟩:=zh0 l;rw[i]at c;cases c
    refine⟨g,n,i,m,o,fun k hk'=>?_⟩;have d:(keysF g t).1≠ []:=fun e=>by rw[e]at hk';cases hk'
    have:=(zo8 d).2.2 k hk';rw[<-f];exact this
   ·cases b
  ·rename_i j;exact absurd (Prod.mk.inj b).2 j
theorem za6b {g:Bool} {s:List UInt8} (h:partB g s=true):s= [45]↔g=true:=by
 unfold partB at h
 cases g with
 | true=>simpa using h
 | false =>
  simp only[Bool.false_eq_true,if_false]at h;refine⟨fun e=>?_,fun e=>by cases e⟩;subst e;revert h;decide
abbrev Ct:=List (Rw×Int)×List (Int×Int)
def lastC (l:List (Int×Int)) (k:Int):Int:=l.foldl (fun m p=>if p.1=k then max m p.2 else m) 0
theorem za6c (l:List (Int×Int)) (z q k:Int):lastC (l++ [(z,q)]) k=if z=k then max (lastC l k) q else lastC l k:=by
 unfold lastC;rw[List.foldl_append];rfl
theorem zb7f (l:List (Int×Int)) (q k:Int):∀ks:List Int,lastC (l++ks.map fun z=>(z,q)) k=if ks.contains k then max (lastC l k) q else lastC l k:=by
 intro ks
 induction ks generalizing l with
 | nil=>simp
 | cons z r ih =>
  have e:l++(z :: r).map (fun z=>(z,q))=(l++ [(z,q)])++r.map fun z=>(z,q):=by simp
  rw[e,ih,za6c];by_cases b:z=k
  ·subst b;by_cases c:r.contains z=true
   ·rw[if_pos c,if_pos rfl,if_pos (by simp)];omega
   ·rw[if_neg c,if_pos rfl,if_pos (by simp)]
  ·have d:(z :: r).contains k=r.contains k:=by
    rw[List.contains_cons];have:(k == z)=false:=by simpa using fun e=>b e.symm
    rw[this,Bool.false_or]
   rw[if_neg b,d]
theorem zb7g {l:List (Int×Int)} {B:Int} (h:∀p∈l,p.2<=B) (g:0<=B) (k:Int):0<=lastC l k/\lastC l k<=B:=by
 unfold lastC;have b:∀(l:List (Int×Int)) (m:Int),(∀p∈l,p.2<=B)->0<=m->m<=B->0<=l.foldl (fun m p=>if p.1=k then max m p.2 else m) m/\l.foldl (fun m p=>if p.1=k then max m p.2 else m) m<=B:=by
  intro l
  induction l with
  | nil=>intro m _ c d;exact⟨c,d⟩
  | cons p r ih =>
   intro m f c d;rw[List.foldl_cons];have i:=f p List.mem_cons_self;refine ih _ (fun q hq=>f q (List.mem_cons_of_mem _ hq)) ?_ ?_
   ·split<;>omega
   ·split<;>omega
 exact b l 0 h (Int.le_refl _) g
def takeC (x:Fl) (text:ByteArray) (c:Ct):Ct :=
 if x.2.1.data.toList≠ [45] then (c.1++(dataO text.data.toList).1.map (fun r=>(r,x.2.2.2.2.2)),c.2) else (c.1,c.2++(goneO text.data.toList).1.map fun k=>(k,x.2.2.2.2.2))
theorem zr2 {x:Fl} {b:ByteArray} {c:Ct} (h:x.2.1.data.toList≠ [45]):takeC x b c=(c.1++(dataO b.data.toList).1.map (fun r=>(r,x.2.2.2.2.2)),c.2):=by unfold takeC;rw[if_pos h]
theorem zz6 {x:Fl} {b:ByteArray} {c:Ct} (h:x.2.1.data.toList= [45]):takeC x b c=(c.1,c.2++(goneO b.data.toList).1.map fun k=>(k,x.2.2.2.2.2)):=by unfold takeC;rw[if_neg (by simpa using h)]
def readC (obs:List Ob) (g:List Fl) (c:Ct):Ct:=g.foldl (fun c x=>takeC x (fileR obs x).2 c) c
theorem zb7h (obs:List Ob) (g:List Fl) (x:Fl) (c:Ct):readC obs (g++ [x]) c=takeC x (fileR obs x).2 (readC obs g c):=by
 unfold readC;rw[List.foldl_append];rfl
def deadB (l:List (Int×Int)) (p:Rw×Int):Bool:=decide (p.2<lastC l p.1.2.1)
def leftC (lo hi:Int) (c:Ct):List (Rw×Int):=c.1.filter fun p=>inB lo hi p.1 && !deadB c.2 p
theorem zz7 {obs:List Ob} {lo hi:Int} :∀(fs:List Fl) (i:Nat) (acc:List (Rw×Int)),(∀x∈fs.filter (inP lo hi),(fileR obs x).1=0)->scanG obs lo hi fs i acc=((fs.filter (inP lo hi)).foldl (fun a x=>addS lo hi x (fileR obs x).2 a) acc,0,none)
 | [],i,acc,_=>rfl
 | x :: r,i,acc,h=>by
  unfold scanG;by_cases b:inP lo hi x=false
  ·rw[if_pos b];have e:(x :: r).filter (inP lo hi)=r.filter (inP lo hi):=by rw[List.filter_cons,b];rfl
   rw[e]at h ⊢;exact zz7 r (i+1) acc h
  ·have c:inP lo hi x=true:=by simpa using b
   have e:(x :: r).filter (inP lo hi)=x :: r.filter (inP lo hi):=by rw[List.filter_cons,c];rfl
   rw[e]at h ⊢;rw[if_neg b,if_neg (by simpa using h x List.mem_cons_self),List.foldl_cons];exact zz7 r (i+1) _ fun y hy=>h y (List.mem_cons_of_mem _ hy)
theorem zz8 {obs:List Ob} {lo hi:Int} :∀(fs:List Fl) (i:Nat) (acc:List (Rw×Int)) (n:Nat) (x:Fl),(fs.filter (inP lo hi))[n]? =some x->(∀m y,m<n->(fs.filter (inP lo hi))[m]? =some y->(fileR obs y).1=0)->(fileR obs x).1≠0->∃j,fs[j]? =some x/\scanG obs lo hi fs i acc=([],(fileR obs x).1,some (i+j))
 | [],i,acc,n,x,h,_,_=>by simp at h
 | y :: r,i,acc,n,x,h,hm,hb=>by
  unfold scanG;by_cases b:inP lo hi y=false
  ·rw[if_pos b];have e:(y :: r).filter (inP lo hi)=r.filter (inP lo hi):=by rw[List.filter_cons,b];rfl
   rw[e]at h hm;obtain⟨j,c,d⟩:=zz8 r (i+1) acc n x h hm hb;exact⟨j+1,by simpa using c,by rw[d,Nat.add_assoc,Nat.add_comm 1 j]⟩
  ·have f:inP lo hi y=true:=by simpa using b
   have e:(y :: r).filter (inP lo hi)=y :: r.filter (inP lo hi):=by rw[List.filter_cons,f];rfl
   rw[e]at h hm;rw[if_neg b]
   cases n with
   | zero =>
    rw[List.getElem?_cons_zero]at h;obtain rfl:=Option.some.inj h;rw[if_pos hb];exact⟨0,rfl,rfl⟩
   | succ k =>
    have g:=hm 0 y (by omega) rfl;rw[if_neg (by simpa using g)];rw[List.getElem?_cons_succ]at h;obtain⟨j,c,d⟩:=zz8 r (i+1) _ k x h (fun m z hk hz=>hm (m+1) z (by omega) (by rw[List.getElem?_cons_succ];exact hz)) hb;exact⟨j+1,by simpa using c,by rw[d,Nat.add_assoc,Nat.add_comm 1 j]⟩
def Ahead (g:List Fl):Prop:=g.Pairwise fun x y=>x.2.1.data.toList= [45]->y.2.1.data.toList= [45]
theorem za6d {f:Fl} (h:fileE f=0):f.2.1.data.toList= [45]↔1073741824<fk f:=by
 obtain⟨g,n,b,c,d⟩:=zh0 h;rw[za6b c];obtain⟨e,i,j⟩:=ze8 b;unfold fk;rw[e];cases g
 ·simp only[Bool.false_eq_true,if_false,false_iff];omega
 ·simp only[if_true,true_iff];omega
theorem zb7i {d:List Fl} (h:Rises 0 d):Ahead d:=by
 unfold Ahead;obtain⟨b,c⟩:=h
 induction d with
 | nil=>exact List.Pairwise.nil
 | cons f r ih =>
  rw[List.pairwise_cons]at c ⊢;refine⟨fun g hg hf=>?_,ih (fun g hg=>b g (List.mem_cons_of_mem _ hg)) c.2⟩;have i:=(za6d (b f List.mem_cons_self).1).1 hf;have j:=c.1 g hg;exact(za6d (b g (List.mem_cons_of_mem _ hg)).1).2 (by omega)
theorem zb7j {b:List Fl} (h:Ahead b) (p:Fl->Bool):Ahead (b.filter p):=h.sublist List.filter_sublist
theorem zb7k {lo hi:Int} {c:Ct} {x:Fl} {b:ByteArray} (d:x.2.1.data.toList≠ [45]) (f:c.2= []) (g:0<=x.2.2.2.2.2):addS lo hi x b (leftC lo hi c)=leftC lo hi (takeC x b c):=by
 rw[zm4 d,zr2 d];unfold leftC;rw[List.filter_append];congr 1;rw[List.filter_map];congr 1;apply List.filter_congr;intro r _;have:deadB c.2 (r,x.2.2.2.2.2)=false:=by
  unfold deadB;rw[f];apply decide_eq_false;show ¬(x.2.2.2.2.2<0);omega
 simp[this]
theorem zb7l {lo hi:Int} {c:Ct} {x:Fl} {b:ByteArray} (g:x.2.1.data.toList= [45]):addS lo hi x b (leftC lo hi c)=leftC lo hi (takeC x b c):=by
 rw[zm5 g,zz6 g];unfold leftC;rw[List.filter_filter];apply List.filter_congr;intro p _;have:deadB (c.2++(goneO b.data.toList).1.map fun k=>(k,x.2.2.2.2.2)) p=(deadB c.2 p || ((goneO b.data.toList).1.contains p.1.2.1 && decide (p.2<x.2.2.2.2.2))):=by
  unfold deadB;rw[zb7f];cases i:(goneO b.data.toList).1.contains p.1.2.1
  ·simp
  ·simp only[if_true,Bool.true_and];by_cases d:p.2<lastC c.2 p.1.2.1
   ·rw[decide_eq_true d,decide_eq_true (by omega)];rfl
   ·rw[decide_eq_false d];by_cases f:p.2<x.2.2.2.2.2
    ·rw[decide_eq_true f,decide_eq_true (by omega)];rfl
    ·rw[decide_eq_false f,decide_eq_false (by omega)];rfl
 rw[this];cases inB lo hi p.1<;>cases deadB c.2 p<;>cases ((goneO b.data.toList).1.contains p.1.2.1 && decide (p.2<x.2.2.2.2.2))<;>rfl
theorem zz9 {obs:List Ob} {lo hi:Int} :∀(g:List Fl) (c:Ct),Ahead g->(c.2= []\/∀x∈g,x.2.1.data.toList= [45])->(∀x∈g,0<=x.2.2.2.2.2)->g.foldl (fun a x=>addS lo hi x (fileR obs x).2 a) (leftC lo hi c)=leftC lo hi (readC obs g c)
 | [],c,_,_,_=>rfl
 | x :: r,c,ha,f,hq=>by
  rw[List.foldl_cons];have k:readC obs (x :: r) c=readC obs r (takeC x (fileR obs x).2 c):=rfl;rw[k];have b:=List.pairwise_cons.1 ha;have i:=fun y hy=>hq y (List.mem_cons_of_mem _ hy);by_cases d:x.2.1.data.toList= [45]
  ·rw[zb7l d];exact zz9 r _ b.2 (Or.inr fun y hy=>b.1 y hy d) i
  ·have j:c.2= []:=by
    rcases f with f | f
    ·exact f
    ·exact absurd (f x List.mem_cons_self) d
   rw[zb7k d j (hq x List.mem_cons_self)];refine zz9 r _ b.2 (Or.inl ?_) i;rw[zr2 d];exact j
def rowsQ (ys:List (Rw×Int)) (q:Int):List Rw:=(ys.filter fun p=>decide (p.2=q)).map (·.1)
theorem zb7m (b c:List (Rw×Int)) (q:Int):rowsQ (b++c) q=rowsQ b q++rowsQ c q:=by
 unfold rowsQ;rw[List.filter_append,List.map_append]
theorem zb7n (l:List Rw) (q:Int):rowsQ (l.map fun r=>(r,q)) q=l:=by
 unfold rowsQ;rw[List.filter_eq_self.2 (fun p hp=>by obtain⟨r,_,rfl⟩:=List.mem_map.1 hp;simp)];rw[List.map_map]
 conv=>rhs;rw[<-List.map_id l]
 rfl
theorem zb7o (l:List Rw) (q z:Int) (h:z≠q):rowsQ (l.map fun r=>(r,q)) z= []:=by
 unfold rowsQ;rw[List.filter_eq_nil_iff.2 (fun p hp=>by obtain⟨r,_,rfl⟩:=List.mem_map.1 hp;simpa using fun e=>h e.symm)];rfl
theorem zb7p {r:List Int} {f g:Int->List (Rw×Int)} (h:∀z∈r,f z=g z):r.flatMap f=r.flatMap g:=by
 induction r with
 | nil=>rfl
 | cons z t ih=>rw [List.flatMap_cons,List.flatMap_cons,h z List.mem_cons_self,ih fun y hy=>h y (List.mem_cons_of_mem _ hy)]
theorem za6e:∀(qs:List Int) (ys:List (Rw×Int)),qs.Nodup->(∀p∈ys,p.2∈qs)->(qs.flatMap fun q=>ys.filter fun p=>decide (p.2=q)).Perm ys
 | [],ys,_,h=>by
  cases ys with
  | nil=>exact List.Perm.refl _
  | cons p r=>have:=h p List.mem_cons_self;cases this
 | q :: r,ys,hn,h=>by
  rw[List.flatMap_cons];have d:=List.nodup_cons.1 hn;have e:(r.flatMap fun z=>ys.filter fun p=>decide (p.2=z))=r.flatMap fun z=>(ys.filter fun p=> !decide (p.2=q)).filter fun p=>decide (p.2=z):=by
   apply zb7p;intro z g;rw[List.filter_filter];apply List.filter_congr;intro p _;by_cases b:p.2=z
   ·have:¬p.2=q:=fun e=>d.1 (by rw[<-e,b];exact g);simp[b];rw[b]at this;exact this
   ·simp[b]
  rw[e];refine(List.Perm.append_left _ (za6e r _ d.2 ?_)).trans ?_
  ·intro p i;obtain⟨b,f⟩:=List.mem_filter.1 i;have c:=h p b;rw[List.mem_cons]at c;rcases c with c | c
   ·simp[c]at f
   ·exact c
  ·exact List.filter_append_perm _ _
def aliveQ (c:Ct) (qs:List Int):List Rw:=qs.flatMap fun q=>(rowsQ c.1 q).filter fun r=> !deadB c.2 (r,q)
theorem za6f (c:Ct) (b:List Int) (g:b.Nodup) (h:∀p∈c.1,p.2∈b):(aliveQ c b).Perm ((c.1.filter fun p=> !deadB c.2 p).map (·.1)):=by
 have d:=((za6e b c.1 g h).filter fun p=> !deadB c.2 p).map (·.1);have e:aliveQ c b=((b.flatMap fun q=>c.1.filter fun p=>decide (p.2=q)).filter fun p=> !deadB c.2 p).map (·.1):=by
  unfold aliveQ;clear g h d
  induction b with
  | nil=>rfl
  | cons q r ih =>
   rw[List.flatMap_cons,List.flatMap_cons,List.filter_append,List.map_append,ih];congr 1;unfold rowsQ;rw[List.filter_map];congr 1;apply List.filter_congr;intro p d;have f:=(List.mem_filter.1 d).2;simp only[decide_eq_true_eq]at f;obtain⟨i,j⟩:=p;dsimp only at f;subst f;rfl
 rw[e];exact d
theorem zb7q (lo hi:Int) (c:Ct) (b:List Int) (d:b.Nodup) (h:∀p∈c.1,p.2∈b):sortR ((aliveQ c b).filter (inB lo hi))=sortR ((leftC lo hi c).map (·.1)):=by
 have e:((c.1.filter fun p=> !deadB c.2 p).map (·.1)).filter (inB lo hi)=(leftC lo hi c).map (·.1):=by
  unfold leftC;rw[List.filter_map,List.filter_filter];rfl
 rw[<-e];exact zb3f ((za6f c b d h).filter _)
theorem zb7r {b:List Fl} (h:Rises 0 b) {j:Nat} {x:Fl} (d:b[j]? =some x):findF b x.1=j:=by
 obtain⟨c,rfl⟩:=List.getElem?_eq_some_iff.1 d;refine zq7 c (fun i hi hlt e=>?_) rfl;have:=List.pairwise_iff_getElem.1 h.2 i j hi c hlt;unfold fk at this;rw[e]at this;omega
theorem zr3 {s:Sn} (h:(snapE s).1=0):s.2.2.2.2.2.2.length<=60/\Rises 0 s.2.2.2.2.2.2:=by
 unfold snapE at h;split at h
 ·cases h
 ·split at h
  ·cases h
  ·split at h
   ·rename_i b;exact absurd h b
   ·rename_i b;exact ze9.1 (by simpa using b)
theorem za6g {f:Fl} (h:fileE f=0):1<=f.2.2.2.2.2/\f.2.2.2.2.2<=1073741824:=by
 obtain⟨g,n,c,d,b⟩:=zh0 h;unfold bndB at b;simp only[Bool.and_eq_true,decide_eq_true_eq,cntB]at b;omega
theorem zb7s {obs:List Ob} {s:Sn} {lo hi:Int} (g:(snapE s).1=0) (h:∀x∈s.2.2.2.2.2.2.filter (inP lo hi),(fileR obs x).1=0) (b:List Int) (j:b.Nodup) (k:∀p∈(readC obs (s.2.2.2.2.2.2.filter (inP lo hi)) ([], [])).1,p.2∈b) :
  rowsS obs s lo hi=(sortR ((aliveQ (readC obs (s.2.2.2.2.2.2.filter (inP lo hi)) ([], [])) b).filter (inB lo hi)),0,none):=by
 have c:=(zr3 g).2;have d:=zz7 s.2.2.2.2.2.2 0 [] h;have f:=zz9 (obs:=obs) (lo:=lo) (hi:=hi) (s.2.2.2.2.2.2.filter (inP lo hi)) ([], []) (zb7j (zb7i c) _) (Or.inl rfl) (fun x hx=>by
  have:=(za6g (c.1 x (List.mem_filter.1 hx).1).1).1;omega)
 have i:leftC lo hi ([], [])= []:=rfl;rw[i]at f;rw[f]at d;unfold rowsS;rw[if_neg (by simpa using g),d];simp only[ne_eq,not_true_eq_false,if_false];rw[zb7q lo hi _ b j k]
theorem zb7t {obs:List Ob} {s:Sn} {lo hi:Int} (f:(snapE s).1=0) (n:Nat) (x:Fl) (g:(s.2.2.2.2.2.2.filter (inP lo hi))[n]? =some x) (i:∀m y,m<n->(s.2.2.2.2.2.2.filter (inP lo hi))[m]? =some y->(fileR obs y).1=0) (c:(fileR obs x).1≠0) :
  ∃j,s.2.2.2.2.2.2[j]? =some x/\rowsS obs s lo hi=([],(fileR obs x).1,some j):=by
 obtain⟨j,d,b⟩:=zz8 s.2.2.2.2.2.2 0 [] n x g i c;rw[Nat.zero_add]at b;refine⟨j,d,?_⟩;unfold rowsS;rw[if_neg (by simpa using f),b,if_pos c]
end Go.Proofs.YtgckdomafbnmkaaGreatDoor
namespace Go.Proofs.YtgckdomafbnmkaaGreatDoor
open Go.RowKit Go.Extern.Stop Go.Stop Go.Extern Go.Sort Go.Shelf Go.Lib
def snV (s:Sn) (vf:Value):Value:=.agg #[.int .i64 s.1,.int .i64 s.2.1,.int .i64 s.2.2.1,.int .i64 s.2.2.2.1,.int .i64 s.2.2.2.2.1,.string s.2.2.2.2.2.1,vf]
def SnAt (W:World) (b:Nat) (s:Sn) (vf:Value):Prop:=W.heap[b]? =some (.cells #[.int .i64 s.1,.int .i64 s.2.1,.int .i64 s.2.2.1,.int .i64 s.2.2.2.1,.int .i64 s.2.2.2.2.1,.string s.2.2.2.2.2.1,vf] 25 (0,0))
theorem SnAt.lt {W:World} {b:Nat} {s:Sn} {vf:Value} (h:SnAt W b s vf):b<W.heap.size:=lt_of_block h
theorem SnAt.below {W c:World} {b:Nat} {s:Sn} {vf:Value} (h:SnAt W b s vf) (d:BL W c):SnAt c b s vf:=(d.block b h.lt).trans h
theorem SnAt.cells {W:World} {b:Nat} {s:Sn} {vf:Value} (h:SnAt W b s vf):W.cell? ⟨b,0,none⟩=some (.int .i64 s.1)/\W.cell? ⟨b,1,none⟩=some (.int .i64 s.2.1)/\W.cell? ⟨b,2,none⟩=some (.int .i64 s.2.2.1)/\W.cell? ⟨b,3,none⟩=some (.int .i64 s.2.2.2.1)/\W.cell? ⟨b,4,none⟩=some (.int .i64 s.2.2.2.2.1)/\W.cell? ⟨b,5,none⟩=some (.string s.2.2.2.2.2.1)/\W.cell? ⟨b,6,none⟩=some vf:=by
 refine⟨?_,?_,?_,?_,?_,?_,?_⟩<;>rw [cell_of_row _ _ _ _ _ _ h]<;>rfl
theorem SnAt.new (w:World) (s:Sn) (vf:Value):SnAt (w.alloc (.cells #[.int .i64 s.1,.int .i64 s.2.1,.int .i64 s.2.2.1,.int .i64 s.2.2.2.1,.int .i64 s.2.2.2.2.1,.string s.2.2.2.2.2.1,vf] 25)) w.heap.size s vf:=heap_alloc_new _ _
theorem za6h {b:List ByteArray} {s:ByteArray} {n:Nat} (h:∀j (h:j<b.length),j<n->b[j]≠s) (d:n<b.length) (e:b[n]≠s):∀j (h:j<b.length),j<n+1->b[j]≠s:=fun j hj hjn=>by
 by_cases c:j=n
 ·subst c;exact e
 ·exact h j hj (by omega)
theorem za6i (s:ByteArray) (b A:Nat) (c:List ByteArray) (w:World) (B:∀j (h:j<c.length),w.cell? ⟨b,j,none⟩=some (.string c[j])) (F:c.length<=20000) :
  Calls Tryz.prog 13 #[.string s,.slice (some ⟨b,0,none⟩) c.length A] w fun e w'=>e= .returned (.bool (c.any fun t=>decide (t=s)))/\w'=w:=by
 have C:Hid (∀j (h:j<c.length),w.cell? ⟨b,j,none⟩=some (.string c[j])):=B;obtain⟨L,m⟩:∃L,c.length=L:=⟨_,rfl⟩;have o:Hid (c.length=L):=m;rw[m]at F ⊢;generalize z:(c.any fun t=>decide (t=s))=R;have p:Hid ((c.any fun t=>decide (t=s))=R):=z;clear m B z
 go_enter Tryz.func13,Tryz.ntmps13
 go_wp2
 go_loop [5] (fun k=> ∃n:Nat,n<=L/\k= .int .i64 n/\∀j (h:j<c.length),j<n->c[j]≠s) (fun k=>L-(intOf k).toNat)
 case atStart=>exact ⟨0,by omega,rfl,fun j h h'=>absurd h' (Nat.not_lt_zero _)⟩
 case round =>
  obtain⟨n,H,rfl,l⟩:=hrel;have i:Hid (∀j (h:j<c.length),j<n->c[j]≠s):=l;clear l;by_cases q:n<L
  ·have d:n<c.length:=by rw[o.out];exact q
   have r:=C.out n d;have G:(n:Int)<(L:Int):=by omega
   have D:(0:Int)<=(n:Int):=by omega
   by_cases f:c[n]=s
   ·have g:R=true:=by rw[<-p.out];exact List.any_eq_true.2 ⟨_,List.getElem_mem d,decide_eq_true f⟩
    subst g;rw[f]at r;have u:(s.toList == s.toList)=true:=by simp
    clear f d;go_wp2;go_ret;exact⟨rfl,rfl⟩
   ·have v:Hid (∀j (h:j<c.length),j<n+1->c[j]≠s):=za6h i.out d f;have u:(c[n].toList == s.toList)=false:=neBB (fun e=>f (zc1 e));generalize c[n]=t at r u;clear f d;go_wp2;go_round
    case rel=>exact ⟨n+1,by omega,by go_num,v.out⟩
    case measure=>simp [intOf];omega
  ·obtain rfl:n=L:=by omega
   have g:R=false:=by
    rw[<-p.out];refine List.any_eq_false.2 fun t ht e=>?_;obtain⟨j,y,E⟩:=List.mem_iff_getElem.1 ht;exact i.out j y (by rw[<-o.out];exact y) (E.trans (of_decide_eq_true e))
   subst g;go_wp2;go_ret;exact⟨rfl,rfl⟩
theorem zb7u (c:ByteArray):([(⟨#[115,116,97,114,116]⟩:ByteArray),⟨#[97,112,112,101,110,100]⟩,⟨#[100,101,108,101,116,101]⟩,⟨#[114,101,119,114,105,116,101]⟩].any fun t=>decide (t=c))=opB c.data.toList:=by
 have b:∀t:List UInt8,(⟨t.toArray⟩:ByteArray)=c↔c.data.toList=t:=fun t=>by
  constructor
  ·rintro rfl;simp
  ·intro h;have:bytesOf c.data.toList=bytesOf t:=by rw[h]
   rw[zd8]at this;exact this.symm
 have d:=b kStart;have f:=b kAppend;have g:=b kDelete;have i:=b kRewrite;rw[Bool.eq_iff_iff];simp only[opB,List.any_cons,List.any_nil,Bool.or_false,Bool.or_eq_true,decide_eq_true_eq];constructor
 ·rintro(h | h | h | h)
  ·exact Or.inl (Or.inl (Or.inl (d.1 h)))
  ·exact Or.inl (Or.inl (Or.inr (f.1 h)))
  ·exact Or.inl (Or.inr (g.1 h))
  ·exact Or.inr (i.1 h)
 ·rintro(((h | h) | h) | h)
  ·exact Or.inl (d.2 h)
  ·exact Or.inr (Or.inl (f.2 h))
  ·exact Or.inr (Or.inr (Or.inl (g.2 h)))
  ·exact Or.inr (Or.inr (Or.inr (i.2 h)))
theorem zb7v {s:Sn} (h:s.1<1\/1073741824<s.1\/s.2.1<0\/s.1<=s.2.1\/s.2.2.1<0\/1073741824<s.2.2.1\/s.2.2.2.1<0\/100000<s.2.2.2.1\/s.2.2.2.2.1<0\/1073741824<s.2.2.2.2.1):snapE s=(2,none):=by
 unfold snapE;rw[if_pos]
 cases b:sbndB s with
 | false=>rfl
 | true =>
  have:=za5k.1 b;omega
def SeqLeft (seq:Int) (fs:List Fl) (n:Nat):Prop:=seqG seq fs 0=seqG seq (fs.drop n) n
theorem za6j (b:Int) (c:List Fl):SeqLeft b c 0:=rfl
theorem za6k {b:Int} {c:List Fl} {n:Nat} (h:SeqLeft b c n) (d:n<c.length) (e:b<c[n].2.2.2.2.2):seqG b c 0=(9,some n):=by
 unfold SeqLeft at h;rw[h,List.drop_eq_getElem_cons d];unfold seqG;rw[if_pos e]
theorem za6l {b:Int} {c:List Fl} {n:Nat} (h:SeqLeft b c n) (d:n<c.length) (e:¬b<c[n].2.2.2.2.2):SeqLeft b c (n+1):=by
 unfold SeqLeft at h ⊢;rw[h]
 conv=>lhs;rw[List.drop_eq_getElem_cons d]
 conv=>lhs;unfold seqG
 rw[if_neg e]
theorem za6m {b:Int} {c:List Fl} (h:SeqLeft b c c.length):seqG b c 0=(0,none):=by
 unfold SeqLeft at h;rw[h,List.drop_length];rfl
theorem za6n {s:Sn} (b:sbndB s=true):(opB s.2.2.2.2.2.1.data.toList=false->snapE s=(4,none))/\(opB s.2.2.2.2.2.1.data.toList=true->((listE s.2.2.2.2.2.2).1≠0->snapE s=listE s.2.2.2.2.2.2)/\((listE s.2.2.2.2.2.2).1=0->snapE s=seqG s.2.2.1 s.2.2.2.2.2.2 0)):=by
 unfold snapE;rw[if_neg (by rw[b];simp)];refine⟨fun h=>by rw[if_pos h],fun h=>⟨fun h1=>?_,fun h1=>?_⟩⟩
 ·rw[if_neg (by rw[h];simp),if_pos h1]
 ·rw[if_neg (by rw[h];simp),if_neg (by simpa using h1)]
theorem za6o (s:Sn) (vf:Value) (w:World) (M:FlsAt w vf s.2.2.2.2.2.2) (hl:s.2.2.2.2.2.2.length<=20000) (H:∀f∈s.2.2.2.2.2.2,f.1.size<=100000/\f.2.1.size<=100000) :
  Calls Tryz.prog 68 #[snV s vf] w fun e w'=>e= .returned (.agg #[.int .i64 (snapE s).1,.int .i64 (atZ (snapE s).2)])/\BL w w':=by
 have G:=@zb7v s;have D:=@za6n s;have F:=@za5k s;obtain⟨u,i,c,l,m,y,I⟩:=s;unfold snV;dsimp only at M hl H G D F ⊢;have r:BL w ((w.alloc (.cells #[.int .i64 u,.int .i64 i,.int .i64 c,.int .i64 l,.int .i64 m,.string y,vf] 25)).alloc (.cells #[.int .i64 0,.int .i64 0] 53)):=(alB _ _).alloc (by simp) _;have X:SnAt ((w.alloc (.cells #[.int .i64 u,.int .i64 i,.int .i64 c,.int .i64 l,.int .i64 m,.string y,vf] 25)).alloc (.cells #[.int .i64 0,.int .i64 0] 53)) w.heap.size (u,i,c,l,m,y,I) vf:=heap_alloc2_old w _ _;have q:FC ((w.alloc (.cells #[.int .i64 u,.int .i64 i,.int .i64 c,.int .i64 l,.int .i64 m,.string y,vf] 25)).alloc (.cells #[.int .i64 0,.int .i64 0] 53)) (w.heap.size+1) 0 0:=heap_alloc2_new w _ _;generalize hR:snapE (u,i,c,l,m,y,I)=R at G D ⊢;generalize bc:sbndB (u,i,c,l,m,y,I)=bd at D F;clear hR bc;have t:w.heap.size<=w.heap.size+1:=Nat.le_succ _;by_cases q0:u<1
 ·obtain rfl:=G (by omega);clear D F M H;have g:=za9 2 ((w.alloc (.cells #[.int .i64 u,.int .i64 i,.int .i64 c,.int .i64 l,.int .i64 m,.string y,vf] 25)).alloc (.cells #[.int .i64 0,.int .i64 0] 53))
  go_enter Tryz.func68,Tryz.ntmps68
  go_wp2_with fail
  generalize (w.alloc (.cells #[.int .i64 u,.int .i64 i,.int .i64 c,.int .i64 l,.int .i64 m,.string y,vf] 25)).alloc (.cells #[.int .i64 0,.int .i64 0] 53)=WA at g q r ⊢;refine g.mono ?_;rintro e E ⟨rfl,p⟩;clear g;have d:=q.below p;have A:BL w E:=trB r p;have B:=d.c0;have C:=d.c1;have N:=d.fz;clear q r p;go_wp2;refine bodyPost_ret (v:=.agg #[.int .i64 2,.int .i64 (-1)]) (by simp[results,Tryz.results68,go_sem,B,C]) rfl ⟨rfl,?_⟩;exact(A.setCell t _).setCell t _
 by_cases q1:1073741824<u
 ·obtain rfl:=G (by omega);clear D F M H;have g:=za9 2 ((w.alloc (.cells #[.int .i64 u,.int .i64 i,.int .i64 c,.int .i64 l,.int .i64 m,.string y,vf] 25)).alloc (.cells #[.int .i64 0,.int .i64 0] 53))
  go_enter Tryz.func68,Tryz.ntmps68
  go_wp2_with fail
  generalize (w.alloc (.cells #[.int .i64 u,.int .i64 i,.int .i64 c,.int .i64 l,.int .i64 m,.string y,vf] 25)).alloc (.cells #[.int .i64 0,.int .i64 0] 53)=WA at g q r ⊢;refine g.mono ?_;rintro e E ⟨rfl,p⟩;clear g;have d:=q.below p;have A:BL w E:=trB r p;have B:=d.c0;have C:=d.c1;have N:=d.fz;clear q r p;go_wp2;refine bodyPost_ret (v:=.agg #[.int .i64 2,.int .i64 (-1)]) (by simp[results,Tryz.results68,go_sem,B,C]) rfl ⟨rfl,?_⟩;exact(A.setCell t _).setCell t _
 by_cases q2:i<0
 ·obtain rfl:=G (by omega);clear D F M H;have g:=za9 2 ((w.alloc (.cells #[.int .i64 u,.int .i64 i,.int .i64 c,.int .i64 l,.int .i64 m,.string y,vf] 25)).alloc (.cells #[.int .i64 0,.int .i64 0] 53))
  go_enter Tryz.func68,Tryz.ntmps68
  go_wp2_with fail
  generalize (w.alloc (.cells #[.int .i64 u,.int .i64 i,.int .i64 c,.int .i64 l,.int .i64 m,.string y,vf] 25)).alloc (.cells #[.int .i64 0,.int .i64 0] 53)=WA at g q r ⊢;refine g.mono ?_;rintro e E ⟨rfl,p⟩;clear g;have d:=q.below p;have A:BL w E:=trB r p;have B:=d.c0;have C:=d.c1;have N:=d.fz;clear q r p;go_wp2;refine bodyPost_ret (v:=.agg #[.int .i64 2,.int .i64 (-1)]) (by simp[results,Tryz.results68,go_sem,B,C]) rfl ⟨rfl,?_⟩;exact(A.setCell t _).setCell t _
 by_cases q3:u<=i
 ·obtain rfl:=G (by omega);clear D F M H;have g:=za9 2 ((w.alloc (.cells #[.int .i64 u,.int .i64 i,.int .i64 c,.int .i64 l,.int .i64 m,.string y,vf] 25)).alloc (.cells #[.int .i64 0,.int .i64 0] 53))
  go_enter Tryz.func68,Tryz.ntmps68
  go_wp2_with fail
  generalize (w.alloc (.cells #[.int .i64 u,.int .i64 i,.int .i64 c,.int .i64 l,.int .i64 m,.string y,vf] 25)).alloc (.cells #[.int .i64 0,.int .i64 0] 53)=WA at g q r ⊢;refine g.mono ?_;rintro e E ⟨rfl,p⟩;clear g;have d:=q.below p;have A:BL w E:=trB r p;have B:=d.c0;have C:=d.c1;have N:=d.fz;clear q r p;go_wp2;refine bodyPost_ret (v:=.agg #[.int .i64 2,.int .i64 (-1)]) (by simp[results,Tryz.results68,go_sem,B,C]) rfl ⟨rfl,?_⟩;exact(A.setCell t _).setCell t _
 by_cases q4:c<0
 ·obtain rfl:=G (by omega);clear D F M H;have g:=za9 2 ((w.alloc (.cells #[.int .i64 u,.int .i64 i,.int .i64 c,.int .i64 l,.int .i64 m,.string y,vf] 25)).alloc (.cells #[.int .i64 0,.int .i64 0] 53))
  go_enter Tryz.func68,Tryz.ntmps68
  go_wp2_with fail
  generalize (w.alloc (.cells #[.int .i64 u,.int .i64 i,.int .i64 c,.int .i64 l,.int .i64 m,.string y,vf] 25)).alloc (.cells #[.int .i64 0,.int .i64 0] 53)=WA at g q r ⊢;refine g.mono ?_;rintro e E ⟨rfl,p⟩;clear g;have d:=q.below p;have A:BL w E:=trB r p;have B:=d.c0;have C:=d.c1;have N:=d.fz;clear q r p;go_wp2;refine bodyPost_ret (v:=.agg #[.int .i64 2,.int .i64 (-1)]) (by simp[results,Tryz.results68,go_sem,B,C]) rfl ⟨rfl,?_⟩;exact(A.setCell t _).setCell t _
 by_cases q5:1073741824<c
 ·obtain rfl:=G (by omega);clear D F M H;have g:=za9 2 ((w.alloc (.cells #[.int .i64 u,.int .i64 i,.int .i64 c,.int .i64 l,.int .i64 m,.string y,vf] 25)).alloc (.cells #[.int .i64 0,.int .i64 0] 53))
  go_enter Tryz.func68,Tryz.ntmps68
  go_wp2_with fail
  generalize (w.alloc (.cells #[.int .i64 u,.int .i64 i,.int .i64 c,.int .i64 l,.int .i64 m,.string y,vf] 25)).alloc (.cells #[.int .i64 0,.int .i64 0] 53)=WA at g q r ⊢;refine g.mono ?_;rintro e E ⟨rfl,p⟩;clear g;have d:=q.below p;have A:BL w E:=trB r p;have B:=d.c0;have C:=d.c1;have N:=d.fz;clear q r p;go_wp2;refine bodyPost_ret (v:=.agg #[.int .i64 2,.int .i64 (-1)]) (by simp[results,Tryz.results68,go_sem,B,C]) rfl ⟨rfl,?_⟩;exact(A.setCell t _).setCell t _
 by_cases q6:l<0
 ·obtain rfl:=G (by omega);clear D F M H;have g:=za9 2 ((w.alloc (.cells #[.int .i64 u,.int .i64 i,.int .i64 c,.int .i64 l,.int .i64 m,.string y,vf] 25)).alloc (.cells #[.int .i64 0,.int .i64 0] 53))
  go_enter Tryz.func68,Tryz.ntmps68
  go_wp2_with fail
  generalize (w.alloc (.cells #[.int .i64 u,.int .i64 i,.int .i64 c,.int .i64 l,.int .i64 m,.string y,vf] 25)).alloc (.cells #[.int .i64 0,.int .i64 0] 53)=WA at g q r ⊢;refine g.mono ?_;rintro e E ⟨rfl,p⟩;clear g;have d:=q.below p;have A:BL w E:=trB r p;have B:=d.c0;have C:=d.c1;have N:=d.fz;clear q r p;go_wp2;refine bodyPost_ret (v:=.agg #[.int .i64 2,.int .i64 (-1)]) (by simp[results,Tryz.results68,go_sem,B,C]) rfl ⟨rfl,?_⟩;exact(A.setCell t _).setCell t _
 by_cases q7:100000<l
 ·obtain rfl:=G (by omega);clear D F M H;have g:=za9 2 ((w.alloc (.cells #[.int .i64 u,.int .i64 i,.int .i64 c,.int .i64 l,.int .i64 m,.string y,vf] 25)).alloc (.cells #[.int .i64 0,.int .i64 0] 53))
  go_enter Tryz.func68,Tryz.ntmps68
  go_wp2_with fail
  generalize (w.alloc (.cells #[.int .i64 u,.int .i64 i,.int .i64 c,.int .i64 l,.int .i64 m,.string y,vf] 25)).alloc (.cells #[.int .i64 0,.int .i64 0] 53)=WA at g q r ⊢;refine g.mono ?_;rintro e E ⟨rfl,p⟩;clear g;have d:=q.below p;have A:BL w E:=trB r p;have B:=d.c0;have C:=d.c1;have N:=d.fz;clear q r p;go_wp2;refine bodyPost_ret (v:=.agg #[.int .i64 2,.int .i64 (-1)]) (by simp[results,Tryz.results68,go_sem,B,C]) rfl ⟨rfl,?_⟩;exact(A.setCell t _).setCell t _
 by_cases q8:m<0
 ·obtain rfl:=G (by omega);clear D F M H;have g:=za9 2 ((w.alloc (.cells #[.int .i64 u,.int .i64 i,.int .i64 c,.int .i64 l,.int .i64 m,.string y,vf] 25)).alloc (.cells #[.int .i64 0,.int .i64 0] 53))
  go_enter Tryz.func68,Tryz.ntmps68
  go_wp2_with fail
  generalize (w.alloc (.cells #[.int .i64 u,.int .i64 i,.int .i64 c,.int .i64 l,.int .i64 m,.string y,vf] 25)).alloc (.cells #[.int .i64 0,.int .i64 0] 53)=WA at g q r ⊢;refine g.mono ?_;rintro e E ⟨rfl,p⟩;clear g;have d:=q.below p;have A:BL w E:=trB r p;have B:=d.c0;have C:=d.c1;have N:=d.fz;clear q r p;go_wp2;refine bodyPost_ret (v:=.agg #[.int .i64 2,.int .i64 (-1)]) (by simp[results,Tryz.results68,go_sem,B,C]) rfl ⟨rfl,?_⟩;exact(A.setCell t _).setCell t _
 by_cases q9:1073741824<m
 ·obtain rfl:=G (by omega);clear D F M H;have g:=za9 2 ((w.alloc (.cells #[.int .i64 u,.int .i64 i,.int .i64 c,.int .i64 l,.int .i64 m,.string y,vf] 25)).alloc (.cells #[.int .i64 0,.int .i64 0] 53))
  go_enter Tryz.func68,Tryz.ntmps68
  go_wp2_with fail
  generalize (w.alloc (.cells #[.int .i64 u,.int .i64 i,.int .i64 c,.int .i64 l,.int .i64 m,.string y,vf] 25)).alloc (.cells #[.int .i64 0,.int .i64 0] 53)=WA at g q r ⊢;refine g.mono ?_;rintro e E ⟨rfl,p⟩;clear g;have d:=q.below p;have A:BL w E:=trB r p;have B:=d.c0;have C:=d.c1;have N:=d.fz;clear q r p;go_wp2;refine bodyPost_ret (v:=.agg #[.int .i64 2,.int .i64 (-1)]) (by simp[results,Tryz.results68,go_sem,B,C]) rfl ⟨rfl,?_⟩;exact(A.setCell t _).setCell t _
 obtain rfl:bd=true:=F.2 (by omega);obtain⟨ac,ad⟩:=D rfl;clear G F D;have ae:=za6i y (w.heap.size+1+1) 4 [⟨#[115,116,97,114,116]⟩,⟨#[97,112,112,101,110,100]⟩,⟨#[100,101,108,101,116,101]⟩,⟨#[114,101,119,114,105,116,101]⟩] (((w.alloc (.cells #[.int .i64 u,.int .i64 i,.int .i64 c,.int .i64 l,.int .i64 m,.string y,vf] 25)).alloc (.cells #[.int .i64 0,.int .i64 0] 53)).alloc (.cells #[.string ⟨#[115,116,97,114,116]⟩,.string ⟨#[97,112,112,101,110,100]⟩,.string ⟨#[100,101,108,101,116,101]⟩,.string ⟨#[114,101,119,114,105,116,101]⟩] 9)) (fun j hj=>by
  have a6:((w.alloc (.cells #[.int .i64 u,.int .i64 i,.int .i64 c,.int .i64 l,.int .i64 m,.string y,vf] 25)).alloc (.cells #[.int .i64 0,.int .i64 0] 53)).heap.size=w.heap.size+1+1:=by simp
  have hb:(((w.alloc (.cells #[.int .i64 u,.int .i64 i,.int .i64 c,.int .i64 l,.int .i64 m,.string y,vf] 25)).alloc (.cells #[.int .i64 0,.int .i64 0] 53)).alloc (.cells #[.string ⟨#[115,116,97,114,116]⟩,.string ⟨#[97,112,112,101,110,100]⟩,.string ⟨#[100,101,108,101,116,101]⟩,.string ⟨#[114,101,119,114,105,116,101]⟩] 9)).heap[w.heap.size+1+1]? =some (.cells #[.string ⟨#[115,116,97,114,116]⟩,.string ⟨#[97,112,112,101,110,100]⟩,.string ⟨#[100,101,108,101,116,101]⟩,.string ⟨#[114,101,119,114,105,116,101]⟩] 9 (0,0)):=by
   have:=heap_alloc_new ((w.alloc (.cells #[.int .i64 u,.int .i64 i,.int .i64 c,.int .i64 l,.int .i64 m,.string y,vf] 25)).alloc (.cells #[.int .i64 0,.int .i64 0] 53)) (.cells #[.string ⟨#[115,116,97,114,116]⟩,.string ⟨#[97,112,112,101,110,100]⟩,.string ⟨#[100,101,108,101,116,101]⟩,.string ⟨#[114,101,119,114,105,116,101]⟩] 9);rw[a6]at this;exact this
  rw[cell_of_row _ _ _ _ _ _ hb];obtain rfl | rfl | rfl | rfl:j=0\/j=1\/j=2\/j=3:=by simp at hj;omega
  all_goals rfl) (by simp)
 rw[zb7u]at ae;have Y:BL w (((w.alloc (.cells #[.int .i64 u,.int .i64 i,.int .i64 c,.int .i64 l,.int .i64 m,.string y,vf] 25)).alloc (.cells #[.int .i64 0,.int .i64 0] 53)).alloc (.cells #[.string ⟨#[115,116,97,114,116]⟩,.string ⟨#[97,112,112,101,110,100]⟩,.string ⟨#[100,101,108,101,116,101]⟩,.string ⟨#[114,101,119,114,105,116,101]⟩] 9)):=r.alloc r.size _;have am:Below ((w.alloc (.cells #[.int .i64 u,.int .i64 i,.int .i64 c,.int .i64 l,.int .i64 m,.string y,vf] 25)).alloc (.cells #[.int .i64 0,.int .i64 0] 53)).heap.size ((w.alloc (.cells #[.int .i64 u,.int .i64 i,.int .i64 c,.int .i64 l,.int .i64 m,.string y,vf] 25)).alloc (.cells #[.int .i64 0,.int .i64 0] 53)) (((w.alloc (.cells #[.int .i64 u,.int .i64 i,.int .i64 c,.int .i64 l,.int .i64 m,.string y,vf] 25)).alloc (.cells #[.int .i64 0,.int .i64 0] 53)).alloc (.cells #[.string ⟨#[115,116,97,114,116]⟩,.string ⟨#[97,112,112,101,110,100]⟩,.string ⟨#[100,101,108,101,116,101]⟩,.string ⟨#[114,101,119,114,105,116,101]⟩] 9)):=alB _ _;have Q:=X.below am;have S:=q.below am;have an:=fun W (hb:BL w W)=>zy1 vf I W (M.below hb) hl H;have az:Hid (FlsAt w vf I):=M;clear X q r am M H;generalize be:opB y.data.toList=OB at ae ac ad;clear be
 go_enter Tryz.func68,Tryz.ntmps68
 go_wp2_with fail
 generalize ((w.alloc (.cells #[.int .i64 u,.int .i64 i,.int .i64 c,.int .i64 l,.int .i64 m,.string y,vf] 25)).alloc (.cells #[.int .i64 0,.int .i64 0] 53)).alloc (.cells #[.string ⟨#[115,116,97,114,116]⟩,.string ⟨#[97,112,112,101,110,100]⟩,.string ⟨#[100,101,108,101,116,101]⟩,.string ⟨#[114,101,119,114,105,116,101]⟩] 9)=W2 at ae Y Q S ⊢;refine ae.mono ?_;rintro e E ⟨rfl,rfl⟩;clear ae
 cases OB with
 | false =>
  obtain rfl:=ac rfl;clear ac ad an Q;have g:=za9 4 E
  go_wp2_with fail
  refine g.mono ?_;rintro e K ⟨rfl,P⟩;clear g;have d:=S.below P;have aj:BL w K:=trB Y P;have B:=d.c0;have C:=d.c1;have N:=d.fz;clear S Y P;go_wp2;refine bodyPost_ret (v:=.agg #[.int .i64 4,.int .i64 (-1)]) (by simp[results,Tryz.results68,go_sem,B,C]) rfl ⟨rfl,?_⟩;exact(aj.setCell t _).setCell t _
 | true =>
  obtain⟨al,ah⟩:=ad rfl;clear ac ad;have T:=an E Y;clear an;have z6:=Q.cells.2.2.2.2.2.2;generalize bf:listE I=LE at al ah T;obtain⟨EC,EA⟩:=LE;dsimp only at al ah T;clear bf;obtain⟨qf,cf,bb⟩:=az.out.form;subst bb;obtain⟨L,hL⟩:∃L,I.length=L:=⟨_,rfl⟩;have HL:Hid (I.length=L):=hL;rw[hL]at T z6 hl;have ak:SnAt E w.heap.size (u,i,c,l,m,y,I) (.slice qf L cf):=by rw[<-hL];exact Q
  clear Q hL
  go_wp2_with fail
  refine T.mono ?_;rintro e K ⟨rfl,P⟩;clear T z6;have aj:BL w K:=trB Y P;have ai:=ak.below P;have Z:=S.below P;clear ak S Y P;by_cases hE:EC=0
  ·subst hE;have a0:Hid (R=seqG c I 0):=ah rfl;clear al ah;have J:BL K (K.alloc (.cells #[.int .i64 ((0:Nat):Int),.int .i64 (atZ EA)] 53)):=alB _ _;have af:BL w (K.alloc (.cells #[.int .i64 ((0:Nat):Int),.int .i64 (atZ EA)] 53)):=trB aj J;have ao:=ai.below J;have ap:=Z.below J;clear ai Z J;go_wp2
   go_loopw [5] (fun k wr=> ∃n:Nat,n<=L/\k= .int .i64 n/\SeqLeft c I n/\BL w wr/\SnAt wr w.heap.size (u,i,c,l,m,y,I) (.slice qf L cf)/\FC wr (w.heap.size+1) 0 0) (fun k _=>L-(intOf k).toNat)
   case atStart=>exact ⟨0,by omega,rfl,za6j c I,af,ao,ap⟩
   case round =>
    clear af ao ap;obtain⟨n,hn,rfl,a3,hb,X,q⟩:=hrel;have aq:Hid (SeqLeft c I n):=a3;have a7:Hid (SnAt wr w.heap.size (u,i,c,l,m,y,I) (.slice qf L cf)):=X;have a1:Hid (FC wr (w.heap.size+1) 0 0):=q;obtain⟨-,-,z2,-,-,-,z6⟩:=X.cells;dsimp only at z2;clear a3 X q;by_cases a8:n<L
    ·have O:n<I.length:=by rw[HL.out];exact a8
     obtain⟨b,o,hq,hc⟩:=(az.out.below hb).cells (fun e=>by rw[e]at O;simp at O);subst hq;have c5:=(hc n O).2.2.2.2.2;have aa:=fun e=>za6k aq.out O e;have ab:=fun e=>za6l aq.out O e;generalize I[n].2.2.2.2.2=z at c5 aa ab;have hi:(n:Int)<(L:Int):=by omega
     have bg:(0:Int)<=(n:Int):=by omega
     clear hc O
     go_wp2_with fail
     go_quiet (fail)
     have ar:BL wr (wr.drewN nq):=za4 (Below.refl _ _) nq;have au:BL w (wr.drewN nq):=za4 hb nq;have av:Hid (SnAt (wr.drewN nq) w.heap.size (u,i,c,l,m,y,I) (.slice (some ⟨b,o,none⟩) L cf)):=a7.out.below ar;have U:=a1.out.below ar;have aw:Hid (FC (wr.drewN nq) (w.heap.size+1) 0 0):=U;clear ar c5 z2 z6;generalize wr.drewN nq=W5 at au av U aw ⊢;by_cases hz:c<z
     ·have ax:R=(9,some n):=by rw[a0.out];exact aa hz
      subst ax;have B:=U.c0;have C:=U.c1;have N:=U.fz;clear aa ab U;go_wp2;refine bodyPost_ret (v:=.agg #[.int .i64 9,.int .i64 n]) (by simp[results,Tryz.results68,go_sem,B,C]) rfl ⟨rfl,?_⟩;exact(au.setCell t _).setCell t _
     ·have a9:Hid (SeqLeft c I (n+1)):=ab (by omega);clear aa ab U;go_wp2;go_roundw
      case rel=>exact ⟨n+1,by omega,by go_num,a9.out,au,av.out,aw.out⟩
      case measure=>simp [intOf];omega
    ·obtain rfl:n=L:=by omega
     have ax:R=(0,none):=by
      rw[a0.out];have h':=aq.out;rw[<-HL.out]at h';exact za6m h'
     subst ax;have a2:=ze1 wr
     go_wp2_with fail
     refine a2.mono ?_;rintro e w5 ⟨rfl,a4⟩;clear a2;have ba:BL w w5:=trB hb a4;have ay:=a1.out.below a4;have B:=ay.c0;have C:=ay.c1;have N:=ay.fz;clear z2 z6;go_wp2;refine bodyPost_ret (v:=.agg #[.int .i64 0,.int .i64 (-1)]) (by simp[results,Tryz.results68,go_sem,B,C]) rfl ⟨rfl,?_⟩;exact(ba.setCell t _).setCell t _
  ·obtain rfl:=al hE;have bh:(0:Int)<(EC:Int):=by omega
   have J:BL K (K.alloc (.cells #[.int .i64 (EC:Int),.int .i64 (atZ EA)] 53)):=alB _ _;have af:BL w (K.alloc (.cells #[.int .i64 (EC:Int),.int .i64 (atZ EA)] 53)):=trB aj J;have ag:=Z.below J;have V:FC (K.alloc (.cells #[.int .i64 (EC:Int),.int .i64 (atZ EA)] 53)) K.heap.size EC (atZ EA):=heap_alloc_new _ _;have a5:K.heap.size=K.heap.size:=rfl;clear ah Z J ai
   go_upto_region 11 with fail
   generalize K.alloc (.cells #[.int .i64 (EC:Int),.int .i64 (atZ EA)] 53)=W4 at af ag V ⊢;generalize K.heap.size=F2 at V ⊢;have B:=ag.c0;have C:=ag.c1;have N:=ag.fz;have n0:=V.c0;have n1:=V.c1;clear ag V a5;go_wp2;refine bodyPost_ret (v:=.agg #[.int .i64 (EC:Int),.int .i64 (atZ EA)]) (by simp[results,Tryz.results68,go_sem,B,C]) rfl ⟨rfl,?_⟩;exact(af.setCell t _).setCell t _
end Go.Proofs.YtgckdomafbnmkaaGreatDoor
