/- By an AI agent. -/
import Derived.Test.YtgckdomafbnmkaaGreatDoorRefDec
import Derived.Handy
import Derived.Laws.Bits128
set_option maxRecDepth 100000
set_option maxHeartbeats 16000000
namespace Go.Proofs.YtgckdomafbnmkaaGreatDoor
open Go.RowKit Go.Extern.Stop Go.Stop Go.Extern Go.Sort Go.Shelf Go.Lib
theorem zf8 {s:List UInt8} (h:numP s=none):numR s=(.int .i64 0,false):=by
 rw[za3u]at h;unfold numR;rw[h]
theorem zw4 {s:List UInt8} {n:Int} (h:numP s=some n):numR s=(.int .i64 n,true):=by
 rw[za3u]at h;unfold numR;rw[h]
theorem za4a:∀(l:List UInt8) (acc m:Nat),decFrom acc l=some m->m<(acc+1)*10 ^ l.length
 | [],acc,m,h=>by simp[decFrom]at h;subst h;simp
 | b :: r,acc,m,h=>by
  unfold decFrom at h;split at h
  ·rename_i d c;have f:=(zw0 c).1;have:=za4a r (acc*10+d) m h;refine Nat.lt_of_lt_of_le this ?_;rw[List.length_cons,Nat.pow_succ,Nat.mul_comm (10 ^ r.length) 10,<-Nat.mul_assoc];exact Nat.mul_le_mul_right _ (by omega)
  ·cases h
theorem zw5 {l:List UInt8} {m:Nat} (b:l.length<=11) (h:decFrom 0 l=some m):m<100000000000:=by
 have c:=za4a l 0 m h;have d:10 ^ l.length<=10 ^ 11:=Nat.pow_le_pow_right (by omega) b;omega
def NumOk (s D:List UInt8) (b:Bool):Prop :=
 digsOf s=D/\¬(D.length<1\/11<s.length)/\¬(D.head? =some 48/\1<s.length)/\(b=true↔D.length<s.length)
theorem zw6 {s D:List UInt8} {b:Bool} (h:NumOk s D b) {m:Nat} (g:decFrom 0 D=some m):numP s=some (if b=true then -(m:Int) else (m:Int)):=by
 obtain⟨rfl,c,d,f⟩:=h;unfold numP;rw[if_neg c,if_neg d,g];simp only[Option.map_some,f]
theorem zw7 {s D:List UInt8} {b:Bool} (h:NumOk s D b) {k:Nat} {c:UInt8} (l:D[k]? =some c) (f:digitVal c=none):numP s=none:=by
 obtain⟨rfl,g,i,n⟩:=h;unfold numP;rw[if_neg g,if_neg i]
 cases j:decFrom 0 (digsOf s) with
 | none=>rfl
 | some m =>
  obtain⟨d,e⟩:=digit_of_decFrom _ _ _ j k c l;rw[e]at f;cases f
theorem zi5 {s:ByteArray} (h:0<s.size):s.data.toList.head? =some s[0]:=by
 rw[List.head?_eq_getElem?];exact zc4 s 0 h
theorem zl2 (s:ByteArray) (w:World) (hs:s.size<=maxLen) :
  Calls Tryz.prog 124 #[.string s] w fun e w'=>e= .returned (.tuple #[(numR s.data.toList).1,.bool (numR s.data.toList).2])/\w'=w:=by
 unfold maxLen at hs;by_cases S:0<s.size
 ·have T:(0:Int)<(s.size:Int):=by omega
  by_cases B:s[0].toNat=45
  ·have aa:(s[0].toNat:Int)=45:=by omega
   have f:digsOf s.data.toList=(s.extract 1 s.size).data.toList:=by
    unfold digsOf;rw[zi5 S,if_pos (by rw[show s[0]=45 from UInt8.toNat_inj.1 B]),extract_to_end,List.drop_one]
   have r:(s.extract 1 s.size).size=s.size-1:=by rw[ByteArray.size_extract];omega
   by_cases z:s.size-1<1\/11<s.size
   ·have c:=zf8 (s:=s.data.toList) (by
     unfold numP;rw[if_pos];rw[f,za3,r,za3];exact z)
    rw[c];clear c f r B;by_cases ac:s.size-1<1
    ·have t:((s.size-1:Nat):Int)<1:=by omega
     go_enter Tryz.func124,Tryz.ntmps124
     go_wp2;go_ret2;exact⟨rfl,rfl⟩
    ·have t:¬((s.size-1:Nat):Int)<1:=by omega
     have J:(11:Int)<(s.size:Int):=by omega
     go_enter Tryz.func124,Tryz.ntmps124
     go_wp2;go_ret2;exact⟨rfl,rfl⟩
   ·have t:¬((s.size-1:Nat):Int)<1:=by omega
    have J:¬(11:Int)<(s.size:Int):=by omega
    have Y:(1:Int)<(s.size:Int):=by omega
    have Z:0<s.size-1:=by omega
    have K:0<(s.extract 1 s.size).size:=by omega
    by_cases y:(s.extract 1 s.size)[0].toNat=48
    ·have M:((s.extract 1 s.size)[0].toNat:Int)=48:=by omega
     have c:=zf8 (s:=s.data.toList) (by
      unfold numP;rw[if_neg (by rw[f,za3,r,za3];exact z),if_pos];rw[f,zi5 K,za3];exact⟨by rw[show (s.extract 1 s.size)[0]=48 from UInt8.toNat_inj.1 y],by omega⟩)
     rw[c];clear c f r B z y
     go_enter Tryz.func124,Tryz.ntmps124
     go_wp2;go_ret2;exact⟨rfl,rfl⟩
    ·have M:¬((s.extract 1 s.size)[0].toNat:Int)=48:=by omega
     have L:Hid (NumOk s.data.toList (s.extract 1 s.size).data.toList true):=by
      refine⟨f,by rw[za3,r,za3];exact z,fun h=>?_,by rw[za3,r,za3];simp;omega⟩;rw[zi5 K]at h;exact y (by rw[Option.some.inj h.1];rfl)
     have A:(s.extract 1 s.size).size<=11:=by omega
     have ab:(((s.extract 1 s.size).size:Nat):Int)<(s.size:Int):=by omega
     clear f B z y;generalize Q:numR s.data.toList=R;have o:Hid (numR s.data.toList=R):=Q;clear Q
     go_enter Tryz.func124,Tryz.ntmps124
     go_wp2;generalize (s.extract 1 s.size)[0].toNat=d0 at M ⊢;clear M K Z t;clear r;generalize s.extract 1 s.size=D at *
     go_loop [5,6] (fun n i=> ∃k m:Nat,k<=D.size/\decFrom 0 (D.data.toList.take k)=some m/\n= .int .i64 m/\i= .int .i64 k) (fun _ i=>D.size-(intOf i).toNat)
     case atStart=>exact ⟨0,0,by omega,by simp[decFrom],rfl,rfl⟩
     case round =>
      obtain⟨k,m,P,v,rfl,rfl⟩:=hrel;have U:=zw5 (Nat.le_trans (List.length_take_le _ _) (Nat.le_trans P A)) v;have C:Hid (decFrom 0 (D.data.toList.take k)=some m):=v;clear v;by_cases E:k<D.size
      ·have T:(k:Int)<(D.size:Int):=by omega
       have g:=zc4 D k E;have N:D[k].toNat<256:=D[k].toNat_lt
       cases b:digitVal D[k] with
       | none =>
        have c:=zf8 (zw7 L.out g b);have u:R=(.int .i64 0,false):=by rw[<-o.out];exact c
        subst u;have V:¬(48<=D[k].toNat/\D[k].toNat<=57):=fun h=>by unfold digitVal at b;rw[if_pos h]at b;cases b
        clear g b c o;by_cases O:D[k].toNat<48
        ·have p:(D[k].toNat:Int)<48:=by omega
         go_wp2;go_ret2;exact⟨rfl,rfl⟩
        ·have p:¬(D[k].toNat:Int)<48:=by omega
         have F:(57:Int)<(D[k].toNat:Int):=by omega
         go_wp2;go_ret2;exact⟨rfl,rfl⟩
       | some d =>
        have q:=decFrom_take D.data.toList k 0 m D[k] d C.out g b;have G:48<=D[k].toNat/\D[k].toNat<=57/\d=D[k].toNat-48:=by
         unfold digitVal at b;split at b
         ·rename_i h;exact⟨h.1,h.2,(Option.some.inj b).symm⟩
         ·cases b
        have H:Hid (decFrom 0 (D.data.toList.take (k+1))=some (m*10+d)):=q;clear q g b;obtain⟨O,g2,g3⟩:=G;have p:¬(D[k].toNat:Int)<48:=by omega
        have F:¬(57:Int)<(D[k].toNat:Int):=by omega
        go_wp2;go_round
        case rel=>exact ⟨k+1,m*10+d,by omega,H.out,by go_num,by go_num⟩
        case measure=>simp [intOf];omega
      ·have I:k=D.size:=by omega
       subst I;have l:=C.out;rw[List.take_of_length_le (by rw[za3];omega)]at l;have j:=zw4 (zw6 L.out l);have u:R=_:=o.out.symm.trans j;subst u;clear l j o;have W:¬((D.size:Int)<(D.size:Int)):=by omega
       go_wp2;go_ret2;exact⟨by simp,rfl⟩
  ·have aa:¬(s[0].toNat:Int)=45:=by omega
   have f:digsOf s.data.toList=s.data.toList:=by
    unfold digsOf;rw[zi5 S,if_neg];intro e;exact B (by rw[Option.some.inj e];rfl)
   by_cases z:11<s.size
   ·have c:=zf8 (s:=s.data.toList) (by
     unfold numP;rw[if_pos];rw[f,za3];exact Or.inr z)
    rw[c];clear c f B;have t:¬(s.size:Int)<1:=by omega
    have J:(11:Int)<(s.size:Int):=by omega
    go_enter Tryz.func124,Tryz.ntmps124
    go_wp2;go_ret2;exact⟨rfl,rfl⟩
   ·have t:¬(s.size:Int)<1:=by omega
    have J:¬(11:Int)<(s.size:Int):=by omega
    by_cases y:s[0].toNat=48/\1<s.size
    ·have M:(s[0].toNat:Int)=48:=by omega
     have Y:(1:Int)<(s.size:Int):=by omega
     have c:=zf8 (s:=s.data.toList) (by
      unfold numP;rw[if_neg (by rw[f,za3];omega),if_pos];rw[f,zi5 S,za3];exact⟨by rw[show s[0]=48 from UInt8.toNat_inj.1 y.1],y.2⟩)
     rw[c];clear c f B z y
     go_enter Tryz.func124,Tryz.ntmps124
     go_wp2;go_ret2;exact⟨rfl,rfl⟩
    ·have L:Hid (NumOk s.data.toList s.data.toList false):=by
      refine⟨f,by rw[za3];omega,fun h=>?_,by simp⟩;rw[zi5 S,za3]at h;exact y ⟨by rw[Option.some.inj h.1];rfl,h.2⟩
     have A:s.size<=11:=by omega
     have X:¬((s[0].toNat:Int)=48/\(1:Int)<(s.size:Int)):=by omega
     clear f B z y;generalize Q:numR s.data.toList=R;have o:Hid (numR s.data.toList=R):=Q;clear Q;by_cases ad:(s[0].toNat:Int)=48
     ·have ae:¬(1:Int)<(s.size:Int):=by omega
      clear X
      go_enter Tryz.func124,Tryz.ntmps124
      go_wp2
      go_loop [5,6] (fun n i=> ∃k m:Nat,k<=s.size/\decFrom 0 (s.data.toList.take k)=some m/\n= .int .i64 m/\i= .int .i64 k) (fun _ i=>s.size-(intOf i).toNat)
      case atStart=>exact ⟨0,0,by omega,by simp[decFrom],rfl,rfl⟩
      case round =>
       obtain⟨k,m,P,v,rfl,rfl⟩:=hrel;have U:=zw5 (Nat.le_trans (List.length_take_le _ _) (Nat.le_trans P A)) v;have C:Hid (decFrom 0 (s.data.toList.take k)=some m):=v;clear v;by_cases E:k<s.size
       ·have T:(k:Int)<(s.size:Int):=by omega
        have g:=zc4 s k E;have N:s[k].toNat<256:=s[k].toNat_lt
        cases b:digitVal s[k] with
        | none =>
         have c:=zf8 (zw7 L.out g b);have u:R=(.int .i64 0,false):=by rw[<-o.out];exact c
         subst u;have V:¬(48<=s[k].toNat/\s[k].toNat<=57):=fun h=>by unfold digitVal at b;rw[if_pos h]at b;cases b
         clear g b c o;by_cases O:s[k].toNat<48
         ·have p:(s[k].toNat:Int)<48:=by omega
          go_wp2;go_ret2;exact⟨rfl,rfl⟩
         ·have p:¬(s[k].toNat:Int)<48:=by omega
          have F:(57:Int)<(s[k].toNat:Int):=by omega
          go_wp2;go_ret2;exact⟨rfl,rfl⟩
        | some d =>
         have q:=decFrom_take s.data.toList k 0 m s[k] d C.out g b;have G:48<=s[k].toNat/\s[k].toNat<=57/\d=s[k].toNat-48:=by
          unfold digitVal at b;split at b
          ·rename_i h;exact⟨h.1,h.2,(Option.some.inj b).symm⟩
          ·cases b
         have H:Hid (decFrom 0 (s.data.toList.take (k+1))=some (m*10+d)):=q;clear q g b;obtain⟨O,g2,g3⟩:=G;have p:¬(s[k].toNat:Int)<48:=by omega
         have F:¬(57:Int)<(s[k].toNat:Int):=by omega
         go_wp2;go_round
         case rel=>exact ⟨k+1,m*10+d,by omega,H.out,by go_num,by go_num⟩
         case measure=>simp [intOf];omega
       ·have I:k=s.size:=by omega
        subst I;have l:=C.out;rw[List.take_of_length_le (by rw[za3];omega)]at l;have j:=zw4 (zw6 L.out l);have u:R=_:=o.out.symm.trans j;subst u;clear l j o;have W:¬((s.size:Int)<(s.size:Int)):=by omega
        go_wp2;go_ret2;exact⟨by simp,rfl⟩
     ·clear X
      go_enter Tryz.func124,Tryz.ntmps124
      go_wp2
      go_loop [5,6] (fun n i=> ∃k m:Nat,k<=s.size/\decFrom 0 (s.data.toList.take k)=some m/\n= .int .i64 m/\i= .int .i64 k) (fun _ i=>s.size-(intOf i).toNat)
      case atStart=>exact ⟨0,0,by omega,by simp[decFrom],rfl,rfl⟩
      case round =>
       obtain⟨k,m,P,v,rfl,rfl⟩:=hrel;have U:=zw5 (Nat.le_trans (List.length_take_le _ _) (Nat.le_trans P A)) v;have C:Hid (decFrom 0 (s.data.toList.take k)=some m):=v;clear v;by_cases E:k<s.size
       ·have T:(k:Int)<(s.size:Int):=by omega
        have g:=zc4 s k E;have N:s[k].toNat<256:=s[k].toNat_lt
        cases b:digitVal s[k] with
        | none =>
         have c:=zf8 (zw7 L.out g b);have u:R=(.int .i64 0,false):=by rw[<-o.out];exact c
         subst u;have V:¬(48<=s[k].toNat/\s[k].toNat<=57):=fun h=>by unfold digitVal at b;rw[if_pos h]at b;cases b
         clear g b c o;by_cases O:s[k].toNat<48
         ·have p:(s[k].toNat:Int)<48:=by omega
          go_wp2;go_ret2;exact⟨rfl,rfl⟩
         ·have p:¬(s[k].toNat:Int)<48:=by omega
          have F:(57:Int)<(s[k].toNat:Int):=by omega
          go_wp2;go_ret2;exact⟨rfl,rfl⟩
        | some d =>
         have q:=decFrom_take s.data.toList k 0 m s[k] d C.out g b;have G:48<=s[k].toNat/\s[k].toNat<=57/\d=s[k].toNat-48:=by
          unfold digitVal at b;split at b
          ·rename_i h;exact⟨h.1,h.2,(Option.some.inj b).symm⟩
          ·cases b
         have H:Hid (decFrom 0 (s.data.toList.take (k+1))=some (m*10+d)):=q;clear q g b;obtain⟨O,g2,g3⟩:=G;have p:¬(s[k].toNat:Int)<48:=by omega
         have F:¬(57:Int)<(s[k].toNat:Int):=by omega
         go_wp2;go_round
         case rel=>exact ⟨k+1,m*10+d,by omega,H.out,by go_num,by go_num⟩
         case measure=>simp [intOf];omega
       ·have I:k=s.size:=by omega
        subst I;have l:=C.out;rw[List.take_of_length_le (by rw[za3];omega)]at l;have j:=zw4 (zw6 L.out l);have u:R=_:=o.out.symm.trans j;subst u;clear l j o;have W:¬((s.size:Int)<(s.size:Int)):=by omega
        go_wp2;go_ret2;exact⟨by simp,rfl⟩
 ·have c:=zf8 (s:=s.data.toList) (by
   have hn:s.data.toList= []:=List.length_eq_zero_iff.1 (by rw[za3];omega);rw[hn];simp[numP,digsOf])
  rw[c];clear c;have T:¬(0:Int)<(s.size:Int):=by omega
  have af:(s.size:Int)<1:=by omega
  go_enter Tryz.func124,Tryz.ntmps124
  go_wp2;go_ret2;exact⟨rfl,rfl⟩
def TextsAt (w:World) (v:Value) (ts:List ByteArray):Prop :=
 ∃b cap,v= .slice (some ⟨b,0,none⟩) ts.length cap/\ts.length<=cap/\∀j (h:j<ts.length),w.cell? ⟨b,j,none⟩=some (.string ts[j])
theorem TextsAt.below {w w':World} {v:Value} {d:List ByteArray} (h:TextsAt w v d) (i:BL w w'):TextsAt w' v d:=by
 obtain⟨b,c,f,g,h⟩:=h;exact⟨b,c,f,g,fun j hj=>za0 i (h j hj)⟩
theorem za4b {w:World} {base:Nat} {v:Value} {b:List ByteArray} (f:b≠ []) (h:w.ownsRow base 9 1 v b.length (b.map Value.string)):TextsAt w v b:=by
 obtain⟨o,h⟩:=h;rcases h with⟨p,i⟩|⟨g,d,n,rfl,_,k,l,_,_,m⟩
 ·exact absurd (List.length_eq_zero_iff.1 i) f
 ·refine⟨g,d,rfl,l,fun j hj=>?_⟩;have c:(b.map Value.string)[j]? =some (.string b[j]):=by simp[hj]
  rw[<-m,List.getElem?_take,if_pos (by omega)]at c;simp only[World.cell?,k];simpa using c
theorem Tryz.strInfo3:(Tryz.prog.info? 9).map (fun i=>(i.zero,i.size,i.bytes))=some (some (.string ⟨#[]⟩),1,16):=by kernel_rfl
theorem Tryz.strInfo:∃i0:TypeInfo,Tryz.prog.info? 9=some i0/\i0.zero=some (.string ⟨#[]⟩)/\i0.size=1/\i0.bytes=16:=by
 obtain⟨i,b,h⟩:=Option.map_eq_some_iff.1 Tryz.strInfo3;simp only[Prod.mk.injEq]at h;exact⟨i,b,h.1,h.2.1,h.2.2⟩
theorem zb6 (w:World) (x:Value) (t:TypeId):∀j u, [x][j]? =some u->(w.alloc (.cells #[x] t)).cell? ((⟨w.heap.size,0,none⟩:Addr).add j)=some u:=by
 intro j u b;rw[Addr.add_lit,Nat.zero_add]
 match j,b with
 | 0,b=>simp at b;subst b;simp
 | j+1,b=>simp at b
def CutInv (l:List UInt8) (f n:Nat) (ts:List ByteArray):Prop :=
 f<=n/\ts.length<=f/\(∀c∈(l.drop f).take (n-f),c≠32)/\ts.map (·.data.toList)++words (l.drop f)=words l
theorem zb4f (l:List UInt8):CutInv l 0 0 []:=⟨Nat.le_refl _,Nat.le_refl _,by simp,by simp⟩
theorem zb4g {l:List UInt8} {f n:Nat} {i:List ByteArray} {c:UInt8} (h:CutInv l f n i) (q:l[n]? =some c) (j:c≠32):CutInv l f (n+1) i:=by
 obtain⟨s,m,o,p⟩:=h;refine⟨by omega,m,fun d hd=>?_,p⟩;obtain⟨k,b⟩:=List.mem_iff_getElem?.1 hd;rw[List.getElem?_take]at b;split at b
 ·rename_i r;rw[List.getElem?_drop]at b;rcases Nat.lt_or_ge k (n-f) with g | g
  ·refine o d (List.mem_iff_getElem?.2 ⟨k,?_⟩);rw[List.getElem?_take,if_pos g,List.getElem?_drop,b]
  ·rw[show f+k=n by omega,q]at b;rw[<-Option.some.inj b];exact j
 ·cases b
theorem zb4h {s:ByteArray} {f n:Nat} {j:List ByteArray} (h:CutInv s.data.toList f n j) (b:s.data.toList[n]? =some 32):CutInv s.data.toList (n+1) (n+1) (j++ [s.extract f n]):=by
 obtain⟨l,m,k,i⟩:=h;refine⟨Nat.le_refl _,by simp;omega,by simp,?_⟩;have d:n<s.data.toList.length:=by
  rcases Nat.lt_or_ge n s.data.toList.length with h | h
  ·exact h
  ·rw[List.getElem?_eq_none h]at b;cases b
 have g:s.data.toList.drop f=(s.data.toList.drop f).take (n-f)++32 :: s.data.toList.drop (n+1):=by
  have c:=List.take_append_drop (n-f) (s.data.toList.drop f);rw[List.drop_drop,show f+(n-f)=n by omega,List.drop_eq_getElem_cons d]at c;rw[List.getElem?_eq_getElem d]at b;rw[Option.some.inj b]at c;exact c.symm
 rw[g,zk4 _ _ k]at i;rw[<-i,List.map_append,List.append_assoc];congr 1;simp only[List.map_cons,List.map_nil,List.cons_append,List.nil_append];rw[extract_data]
theorem zb4i {s:ByteArray} {f:Nat} {d:List ByteArray} (h:CutInv s.data.toList f s.size d):(d++ [s.extract f s.size]).map (·.data.toList)=words s.data.toList:=by
 obtain⟨g,i,b,c⟩:=h;rw[List.take_of_length_le (by rw[List.length_drop,za3];omega)]at b;rw[zo5 _ b]at c;rw[<-c,List.map_append];simp only[List.map_cons,List.map_nil,extract_to_end]
theorem za4c (s:ByteArray) (w:World) (V:s.size<4294967281) :
  Calls Tryz.prog 159 #[.string s,.int .u8 32] w fun e w'=> ∃v ts,e= .returned v/\TextsAt w' v ts/\ts.map (·.data.toList)=words s.data.toList/\BL w w':=by
 obtain⟨N,E,F,G,r⟩:=Tryz.strInfo
 go_enter Tryz.func159,Tryz.ntmps159
 go_wp2
 go_loopw [5,6,7] (fun out from' k wr=> ∃(n f:Nat) (ts:List ByteArray),n<=s.size/\k= .int .i64 n/\from'= .int .i64 f/\BL w wr/\CutInv s.data.toList f n ts/\wr.ownsRow w.heap.size 9 1 out ts.length (ts.map Value.string)) (fun _ _ k _=>s.size-(intOf k).toNat)
 case atStart=>exact ⟨0,0, [],by omega,rfl,rfl,Below.refl _ _,zb4f _,by simp;exact World.ownsRow_nil _ _ _ _⟩
 case round =>
  obtain⟨n,f,ts,U,rfl,rfl,g,l,t⟩:=hrel;have m:Hid (wr.ownsRow w.heap.size 9 1 u5 ts.length (ts.map Value.string)):=t;have H:Hid (CutInv s.data.toList f n ts):=l;have S:f<=n:=l.1;have D:ts.length<=f:=l.2.1;have A:Hid (ts.length<=f):=D;clear t l D;by_cases J:n<s.size
  ·have T:(n:Int)<(s.size:Int):=by omega
   have j:=zc4 s n J;by_cases B:s[n].toNat=32
   ·have K:(s[n].toNat:Int)=32:=by omega
    have Q:Hid (s.data.toList[n]? =some 32):=by
     rw[j];exact congrArg some (UInt8.toNat_inj.1 B)
    clear j B;have o:BL wr (wr.alloc (.cells #[.string (s.extract f n)] 9)):=alB _ _;have d:BL w (wr.alloc (.cells #[.string (s.extract f n)] 9)):=g.alloc g.size _
    go_wp2_with (at_builtin;refine wpList_append_own _ rfl _ _ 39 rfl w.heap.size 9 N (.string ⟨#[]⟩) 1 16 Tryz.underlying39 E F G r rfl (by decide) u5 ts.length (ts.map Value.string) rfl ?qc0 ⟨wr.heap.size,0,none⟩ 1 1 [.string (s.extract f n)] rfl ?qc1 ?qc2 ?qc3 ?qc4 ?qc5 ?qc6 ?_)
    case qc0=>exact za2 m.out o
    case qc1=>rfl
    case qc2=>exact zb6 _ _ _
    case qc3=>intro u y;simp at y;subst y;rfl
    case qc4=>have:=A.out;unfold maxLen;omega
    case qc5=>have:=A.out;omega
    case qc6=>first | exact d.size | (have:=g.size;omega)
    intro C z b c i;have p:BL w z:=d.grown c d.size (fun k hk=>by
     rcases m.out.2 with⟨e,_⟩|⟨R,I,O,e,P,_⟩
     ·rw[e]at hk;simp[Value.ownBlock]at hk
     ·rw[e]at hk;simp[Value.ownBlock]at hk;omega)
    have q:Hid (z.ownsRow w.heap.size 9 1 C (ts.length+1) (ts.map Value.string++ [.string (s.extract f n)])):=b;clear b i c;go_wp2;go_roundw
    case rel=>exact ⟨n+1,n+1,ts++ [s.extract f n],by omega,by go_num,by go_num,p,zb4h H.out Q.out,by rw[List.length_append,List.map_append];exact q.out⟩
    case measure=>simp [intOf];omega
   ·have K:¬(s[n].toNat:Int)=32:=by omega
    have L:Hid (CutInv s.data.toList f (n+1) ts):=zb4g H.out j (fun e=>B (by rw[e];rfl));clear j B;go_wp2;go_roundw
    case rel=>exact ⟨n+1,f,ts,by omega,by go_num,by go_num,g,L.out,m.out⟩
    case measure=>simp [intOf];omega
  ·have M:n=s.size:=by omega
   subst M;have o:BL wr (wr.alloc (.cells #[.string (s.extract f s.size)] 9)):=alB _ _;have d:BL w (wr.alloc (.cells #[.string (s.extract f s.size)] 9)):=g.alloc g.size _
   go_wp2_with (at_builtin;refine wpList_append_own _ rfl _ _ 39 rfl w.heap.size 9 N (.string ⟨#[]⟩) 1 16 Tryz.underlying39 E F G r rfl (by decide) u5 ts.length (ts.map Value.string) rfl ?qc0 ⟨wr.heap.size,0,none⟩ 1 1 [.string (s.extract f s.size)] rfl ?qc1 ?qc2 ?qc3 ?qc4 ?qc5 ?qc6 ?_)
   case qc0=>exact za2 m.out o
   case qc1=>rfl
   case qc2=>exact zb6 _ _ _
   case qc3=>intro u y;simp at y;subst y;rfl
   case qc4=>have:=A.out;unfold maxLen;omega
   case qc5=>have:=A.out;omega
   case qc6=>first | exact d.size | (have:=g.size;omega)
   intro C z b c i;have p:BL w z:=d.grown c d.size (fun k hk=>by
    rcases m.out.2 with⟨e,_⟩|⟨R,I,O,e,P,_⟩
    ·rw[e]at hk;simp[Value.ownBlock]at hk
    ·rw[e]at hk;simp[Value.ownBlock]at hk;omega)
   have q:Hid (z.ownsRow w.heap.size 9 1 C (ts.length+1) (ts.map Value.string++ [.string (s.extract f s.size)])):=b;clear b i c;go_wp2;go_ret;exact⟨C,ts++ [s.extract f s.size],rfl,za4b (base:=w.heap.size) (by simp) (by rw[List.length_append,List.map_append];exact q.out),zb4i H.out,p⟩
theorem Tryz.numInfo3:(Tryz.prog.info? 3).map (fun i=>(i.zero,i.size,i.bytes))=some (some (.int .i64 0),1,8):=by kernel_rfl
theorem Tryz.numInfo:∃i0:TypeInfo,Tryz.prog.info? 3=some i0/\i0.zero=some (.int .i64 0)/\i0.size=1/\i0.bytes=8:=by
 obtain⟨i,b,h⟩:=Option.map_eq_some_iff.1 Tryz.numInfo3;simp only[Prod.mk.injEq]at h;exact⟨i,b,h.1,h.2.1,h.2.2⟩
theorem zb4j {w:World} {base:Nat} {t:TypeId} {v:Value} {n:Nat} {l:List Value} (h:w.ownsRow base t 1 v n l) (k:n≠0):∃g cap,v= .slice (some ⟨g,0,none⟩) n cap/\n<=cap/\∀j u,l[j]? =some u->w.cell? ⟨g,j,none⟩=some u:=by
 obtain⟨p,h⟩:=h;rcases h with⟨q,c⟩|⟨g,cap,m,rfl,_,d,f,_,_,i⟩
 ·exact absurd c k
 ·refine⟨g,cap,rfl,f,fun j u hu=>?_⟩;have o:j<l.length:=by
   rcases Nat.lt_or_ge j l.length with b | b
   ·exact b
   ·rw[List.getElem?_eq_none b]at hu;cases hu
  rw[<-i,List.getElem?_take,if_pos (by omega)]at hu;simp only[World.cell?,d];simpa using hu
def NumsOf (w:World) (e:Ending):Option Int->Option Int->Prop
 | some x,some y=> ∃g c,e= .returned (.tuple #[.slice (some ⟨g,0,none⟩) 2 c,.bool true])/\w.cell? ⟨g,0,none⟩=some (.int .i64 x)/\w.cell? ⟨g,1,none⟩=some (.int .i64 y)
 | _,_=>e= .returned (.tuple #[.slice none 0 0,.bool false])
theorem zb4k (b o O:Nat) (K V:ByteArray) (w:World) (Y:w.cell? ⟨b,o,none⟩=some (.string K)) (I:w.cell? ⟨b,o+1,none⟩=some (.string V)) (P:K.size<=maxLen) (Q:V.size<=maxLen) :
  Calls Tryz.prog 160 #[.slice (some ⟨b,o,none⟩) 2 O] w fun e w'=>NumsOf w' e (numO K.data.toList) (numO V.data.toList)/\BL w w':=by
 obtain⟨M,E,F,G,v⟩:=Tryz.numInfo;have f:=fun W=>zl2 K W P;have i:=fun W=>zl2 V W Q;unfold numR at f i
 cases l:numO K.data.toList with
 | none =>
  rw[l]at f;have J:∀W e y,NumsOf W e none y=(e= .returned (.tuple #[.slice none 0 0,.bool false])):=fun W e y=>by cases y<;>rfl
  simp only[J];clear i I J l;dsimp only at f
  go_enter Tryz.func160,Tryz.ntmps160
  go_wp2;refine wp_loop_rounds 3 ?_;rw[rounds_succ]
  go_wp2_with (go_at_call 124;refine(f _).mono ?_;rintro e H ⟨rfl,j⟩;rw[j];clear j)
  go_ret2;exact⟨rfl,Below.refl _ _⟩
 | some x =>
  rw[l]at f;clear l;dsimp only at f;have s:BL w (w.alloc (.cells #[.int .i64 x] 3)):=alB _ _;have B:(w.alloc (.cells #[.int .i64 x] 3)).ownsRow w.heap.size 3 1 (.slice none 0 0) 0 []:=World.ownsRow_nil _ _ _ _;generalize X:numO V.data.toList=y at i ⊢;clear X
  go_enter Tryz.func160,Tryz.ntmps160
  go_wp2;refine wp_loop_rounds 3 ?_;rw[rounds_succ]
  go_wp2_with (first
   | (go_at_call 124;refine(f _).mono ?_;rintro e H ⟨rfl,j⟩;rw[j];clear j)
   | (at_builtin;refine wpList_append_own _ rfl _ _ 69 rfl w.heap.size 3 M (.int .i64 0) 1 8 Tryz.underlying69 E F G v rfl (by decide) (.slice none 0 0) 0 [] rfl ?qc0 ⟨w.heap.size,0,none⟩ 1 1 [.int .i64 x] rfl ?qc1 ?qc2 ?qc3 ?qc4 ?qc5 ?qc6 ?_))
  case qc0=>exact B
  case qc1=>rfl
  case qc2=>exact zb6 _ _ _
  case qc3=>intro u A;simp at A;subst A;rfl
  case qc4=>unfold maxLen;omega
  case qc5=>omega
  case qc6=>exact s.size
  intro N r p d n;have t:BL w r:=s.grown d s.size (fun k l=>by simp[Value.ownBlock]at l);have Z:=za0 t I;have C:Hid (r.ownsRow w.heap.size 3 1 N 1 [.int .i64 x]):=p;clear p d n B I Y f;go_wp2;rw[rounds_succ]
  cases y with
  | none =>
   dsimp only at i
   go_wp2_with (go_at_call 124;refine(i _).mono ?_;rintro e H ⟨rfl,j⟩;rw[j];clear j)
   go_ret2;exact⟨rfl,t⟩
  | some y =>
   dsimp only at i;have D:BL r (r.alloc (.cells #[.int .i64 y] 3)):=alB _ _;have m:BL w (r.alloc (.cells #[.int .i64 y] 3)):=trB t D
   go_wp2_with (first
    | (go_at_call 124;refine(i _).mono ?_;rintro e H ⟨rfl,j⟩;rw[j];clear j)
    | (at_builtin;refine wpList_append_own _ rfl _ _ 69 rfl w.heap.size 3 M (.int .i64 0) 1 8 Tryz.underlying69 E F G v rfl (by decide) N 1 [.int .i64 x] rfl ?qd0 ⟨r.heap.size,0,none⟩ 1 1 [.int .i64 y] rfl ?qd1 ?qd2 ?qd3 ?qd4 ?qd5 ?qd6 ?_))
   case qd0=>exact za2 C.out D
   case qd1=>rfl
   case qd2=>exact zb6 _ _ _
   case qd3=>intro u A;simp at A;subst A;rfl
   case qd4=>unfold maxLen;omega
   case qd5=>omega
   case qd6=>exact m.size
   intro v2 T q d n;have L:BL w T:=m.grown d m.size (fun k l=>by
    rcases C.out.2 with⟨e,_⟩|⟨g',U,aa,e,ab,_⟩
    ·rw[e]at l;simp[Value.ownBlock]at l
    ·rw[e]at l;simp[Value.ownBlock]at l;omega)
   obtain⟨g,c,rfl,_,z⟩:=zb4j q (by omega);have R:=z 0 (.int .i64 x) rfl;have S:=z 1 (.int .i64 y) rfl;clear q d n z;go_wp2;rw[rounds_succ];go_wp2;go_ret2;exact⟨⟨g,c,rfl,R,S⟩,L⟩
theorem zi6 (l:List UInt8):keyO l=match numO l with
 | none=>(0,1)
 | some n=>if inNum n then (n,0) else (0,2):=rfl
theorem zw8 (b:ByteArray) (w:World) (a:Nat->Addr) (h:EnvD0 w a) (o:b.size<=100000) :
  Calls Tryz.prog 193 #[.string b] w fun e w'=>e= .returned (.tuple #[.int .i64 (keyO b.data.toList).1,errV a (keyO b.data.toList).2])/\BL w w':=by
 have c:=za2z b w a h.env (by unfold maxLen;omega);unfold numR at c
 cases g:numO b.data.toList with
 | none =>
  have j:Hid (keyO b.data.toList=(0,1)):=by show _=_;rw[zi6,g]
  rw[g]at c;dsimp only at c;clear g;rw[j.out];simp only[errV]
  go_enter Tryz.func193,Tryz.ntmps193
  go_wp2_with fail
  refine c.mono ?_;rintro e k ⟨rfl,f⟩;clear c;have l:=(h.below f).env.text;go_wp2
  go_quiet (fail)
  go_wp2;go_ret2;exact⟨rfl,za4 f nq⟩
 | some n =>
  rw[g]at c;dsimp only at c
  cases i:inNum n with
  | true =>
   have j:Hid (keyO b.data.toList=(n,0)):=by show _=_;rw[zi6,g];simp[i]
   have d:=fun W=>zk8 n W;rw[i]at d;clear g i;rw[j.out];simp only[errV]
   go_enter Tryz.func193,Tryz.ntmps193
   go_wp2_with fail
   refine c.mono ?_;rintro e k ⟨rfl,f⟩;clear c
   go_wp2_with fail
   refine(d _).mono ?_;rintro e m ⟨rfl,rfl⟩;clear d;go_wp2;go_ret2;exact⟨rfl,f⟩
  | false =>
   have j:Hid (keyO b.data.toList=(0,2)):=by show _=_;rw[zi6,g];simp[i]
   have d:=fun W=>zk8 n W;rw[i]at d;clear g i;rw[j.out];simp only[errV]
   go_enter Tryz.func193,Tryz.ntmps193
   go_wp2_with fail
   refine c.mono ?_;rintro e k ⟨rfl,f⟩;clear c
   go_wp2_with fail
   refine(d _).mono ?_;rintro e m ⟨rfl,rfl⟩;clear d;have l:=(h.below f).env.bound;go_wp2
   go_quiet (fail)
   go_wp2;go_ret2;exact⟨rfl,za4 f nq⟩
theorem zi7 {w:World} {base:Nat} {v:Value} {b:List Int} (h:w.ownsRow base 3 1 v b.length (b.map (Value.int .i64))):KeysAt w v b:=by
 obtain⟨n,h⟩:=h;rcases h with⟨f,i⟩|⟨g,d,m,rfl,_,k,o,_,_,l⟩
 ·have:b= []:=List.length_eq_zero_iff.1 i;subst this;exact .inl ⟨none,0,f,rfl⟩
 ·refine .inr ⟨g,0,d,rfl,fun j hj=>?_⟩;have c:(b.map (Value.int .i64))[j]? =some (.int .i64 b[j]):=by simp[hj]
  rw[<-l,List.getElem?_take,if_pos (by omega)]at c;simp only[World.cell?,k,Nat.zero_add];simpa using c
structure BoxK (W:World) (B bl:Nat) (v:Value) (acc:List Int):Prop where
 box:W.heap[bl]? =some (.cells #[v] 69 (0,0))
 own:W.ownsRow B 3 1 v acc.length (acc.map (Value.int .i64))
 off:v.ownBlock≠some bl
 low:B<=bl
structure InvK (B bl P Q:Nat) (W:World) (acc:List Int):Prop where
 ex:∃v,BoxK W B bl v acc/\∀j,P<=j->j<Q->v.ownBlock≠some j
 lt:bl<P
 hq:Q<=W.heap.size
theorem BoxK.below {W d:World} {B c:Nat} {v:Value} {b:List Int} (h:BoxK W B c v b) (f:BL W d):BoxK d B c v b :=
 ⟨(f.block c (lt_of_block h.box)).trans h.box,za2 h.own f,h.off,h.low⟩
theorem InvK.keep {B c P Q:Nat} {W d:World} {b:List Int} (h:InvK B c P Q W b) (f:BL W d):InvK B c P Q d b:=by
 obtain⟨⟨v,g,i⟩,j,k⟩:=h;exact⟨⟨v,g.below f,i⟩,j,Nat.le_trans k f.size⟩
theorem InvK.set {B d P Q:Nat} {W:World} {c:List Int} (j o:Nat) (u:Value) (i:P<=j) (k:j<Q) (h:InvK B d P Q W c):InvK B d P Q (W.setCell ⟨j,o,none⟩ u) c:=by
 obtain⟨⟨v,b,f⟩,g,m⟩:=h;have l:(W.setCell ⟨j,o,none⟩ u).heap.size=W.heap.size:=by simp[World.setCell]
 refine⟨⟨v,⟨?_,ownsRow_setCell_other b.own (f j i k) u,b.off,b.low⟩,f⟩,g,by omega⟩;rw[heap_setCell_other _ _ _ _ (by show d≠j;omega)];exact b.box
theorem zw9 {W g:World} {B b:Nat} {v d:Value} {c:List Int} {x:Int} (h:BoxK W B b v c) (m:g.ownsRow B 3 1 d (c.length+1) (c.map (Value.int .i64)++ [.int .i64 x])) (n:W.grownBy g v.ownBlock) (k:d.ownBlock=v.ownBlock\/d.ownBlock=some W.heap.size) :
  BoxK (g.setCell ⟨b,0,none⟩ d) B b d (c++ [x])/\g.heap[b]? =some (.cells #[v] 69 (0,0)):=by
 have j:=lt_of_block h.box;have i:g.heap[b]? =some (.cells #[v] 69 (0,0)):=(n.block b j (fun e=>h.off e.symm)).trans h.box;have f:d.ownBlock≠some b:=by
  rcases k with e | e
  ·rw[e];exact h.off
  ·rw[e];intro l;have:=Option.some.inj l;omega
 refine⟨⟨one_setCell i,?_,f,h.low⟩,i⟩;rw[List.length_append,List.map_append];exact ownsRow_setCell_other m f _
theorem za4d {l W b:World} {B c P Q:Nat} {v d:Value} {f:List Int} {x:Int} (h:BoxK W B c v f) (p:b.ownsRow B 3 1 d (f.length+1) (f.map (Value.int .i64)++ [.int .i64 x])) (m:W.grownBy b v.ownBlock) (i:d.ownBlock=v.ownBlock\/d.ownBlock=some W.heap.size)
  (n:BL l W) (g:∀j,P<=j->j<Q->v.ownBlock≠some j) (o:c<P) (q:Q<=l.heap.size) :
  InvK B c P Q (b.setCell ⟨c,0,none⟩ d) (f++ [x])/\∀j,P<=j->j<Q->(b.setCell ⟨c,0,none⟩ d).heap[j]? =l.heap[j]? :=by
 have r:Q<=W.heap.size:=Nat.le_trans q n.size;have s:W.heap.size<=b.heap.size:=m.size;refine⟨⟨⟨d,(zw9 h p m i).1,fun j h1 h2 e=>?_⟩,o,?_⟩,fun j h1 h2=>?_⟩
 ·rcases i with k | k
  ·exact g j h1 h2 (k.symm.trans e)
  ·rw[k]at e;have:=Option.some.inj e;omega
 ·have:(b.setCell ⟨c,0,none⟩ d).heap.size=b.heap.size:=by simp[World.setCell]
  omega
 ·rw[heap_setCell_other _ _ _ _ (by show j≠c;omega),m.block j (by omega) (fun e=>g j h1 h2 e.symm)];exact n.block j (by omega)
theorem zb4l (b:ByteArray) (g:Nat) (W:World) (a:Nat->Addr) (h:EnvD0 W a) (i:b.size<=100000) (j:(keyO b.data.toList).2≠0) :
  Calls Tryz.prog 192 #[.string b,.pointer (some ⟨g,0,none⟩)] W fun e w'=>e= .returned (.tuple #[.int .i64 0,errV a (keyO b.data.toList).2])/\BL W w':=by
 have c:=zw8 b W a h i;obtain⟨E,d⟩:∃E,(keyO b.data.toList).2=E+1:=⟨(keyO b.data.toList).2-1,by omega⟩;rw[d]at c ⊢;simp only[errV]at c ⊢;generalize (keyO b.data.toList).1=x at c;clear j d
 go_enter Tryz.func192,Tryz.ntmps192
 go_wp2_with fail
 refine c.mono ?_;rintro e k ⟨rfl,f⟩;clear c;go_wp2;go_ret2;exact⟨rfl,f⟩
theorem zb4m (b:ByteArray) (l B:Nat) (v:Value) (W:World) (a:Nat->Addr) (h:EnvD0 W a) (C:BoxK W B l v []) (P Q:Nat) (z:∀j,P<=j->j<Q->v.ownBlock≠some j) (S:l<P) (Z:Q<=W.heap.size) (hs:b.size<=100000) (T:(keyO b.data.toList).2=0) :
  Calls Tryz.prog 192 #[.string b,.pointer (some ⟨l,0,none⟩)] W fun e w'=>e= .returned (.tuple #[.int .i64 (keyO b.data.toList).1,.nilIface])/\InvK B l P Q w' [(keyO b.data.toList).1]/\(∀j,P<=j->j<Q->w'.heap[j]? =W.heap[j]?)/\Below B W w':=by
 obtain⟨X,L,M,N,G⟩:=Tryz.numInfo;have i:=zw8 b W a h hs;rw[T]at i;simp only[errV]at i;obtain⟨x,O⟩:∃x,(keyO b.data.toList).1=x:=⟨_,rfl⟩;rw[O]at i ⊢;clear O T;have o:B<=W.heap.size:=Nat.le_trans C.low (Nat.le_of_lt (lt_of_block C.box));have E:Hid (∀j,P<=j->j<Q->v.ownBlock≠some j):=z;clear z
 go_enter Tryz.func192,Tryz.ntmps192
 go_wp2_with fail
 refine i.mono ?_;rintro e t ⟨rfl,y⟩;clear i;have f:=C.below y;obtain⟨q,Y,rfl⟩:=zq1 f.own;simp only[List.length_nil]at f;have aa:=cell_of_one f.box;have ab:=free_of_one f.box;clear C;have p:BL t (t.alloc (.cells #[.int .i64 x] 3)):=alB _ _;have g:=f.below p;have r:Below B W (t.alloc (.cells #[.int .i64 x] 3)):=(trB y p).mono o
 go_wp2_with (at_builtin;refine wpList_append_own_at _ rfl _ _ 69 rfl B 3 X (.int .i64 0) 1 8 Tryz.underlying69 L M N G rfl (by decide) (.slice q 0 Y) 0 (([]:List Int).map (Value.int .i64)) rfl g.own ⟨t.heap.size,0,none⟩ 1 1 [.int .i64 x] rfl ?qd1 ?qd2 ?qd3 ?qd4 ?qd5 ?qd6 ?_)
 case qd1=>rfl
 case qd2=>exact zb6 _ _ _
 case qd3=>intro u R;simp at R;subst R;rfl
 case qd4=>unfold maxLen;omega
 case qd5=>omega
 case qd6=>exact Nat.le_trans o r.size
 intro v7 A d c _ n;obtain⟨H,m,rfl⟩:=zf0 d;obtain⟨I,D⟩:=zw9 (x:=x) g d c (by simpa using n);have U:=cell_of_one D;have V:=free_of_one D;have J:Below B W A:=r.grown c (Nat.le_trans o r.size) (fun k hk=>zq2 g.own hk);have K:Below B W (A.setCell ⟨l,0,none⟩ (.slice (some ⟨H,0,none⟩) (0+1) m)):=J.setCell g.low _;have F:BL W (t.alloc (.cells #[.int .i64 x] 3)):=trB y p;have s:Hid (InvK B l P Q (A.setCell ⟨l,0,none⟩ (.slice (some ⟨H,0,none⟩) (0+1) m)) ([]++ [x])/\∀j,P<=j->j<Q->(A.setCell ⟨l,0,none⟩ (.slice (some ⟨H,0,none⟩) (0+1) m)).heap[j]? =W.heap[j]?):=za4d (x:=x) g d c (by simpa using n) F E.out S Z;clear d c n g f I;go_wp2;go_ret2;exact⟨rfl,s.out.1,s.out.2,K⟩
theorem zb4n (f:ByteArray) (p B k:Nat) (v:Value) (d:List Int) (W:World) (a:Nat->Addr) (h:EnvD0 W a) (L:BoxK W B p v d) (hs:f.size<=100000) (hl:d.length<=100000) (P Q:Nat) (I:∀j,P<=j->j<Q->v.ownBlock≠some j) (ai:p<P) (hq:Q<=W.heap.size) (C:d.length=k+1) (aj:k<d.length) (hr:(keyO f.data.toList).2=0) :
  Calls Tryz.prog 192 #[.string f,.pointer (some ⟨p,0,none⟩)] W fun e w'=>((keyO f.data.toList).1<=d[k]->e= .returned (.tuple #[.int .i64 0,errV a 9])/\BL W w') /\
   (¬(keyO f.data.toList).1<=d[k]->e= .returned (.tuple #[.int .i64 (keyO f.data.toList).1,.nilIface])/\InvK B p P Q w' (d++ [(keyO f.data.toList).1])/\(∀j,P<=j->j<Q->w'.heap[j]? =W.heap[j]?)/\Below B W w'):=by
 obtain⟨i0,af,ag,ah,U⟩:=Tryz.numInfo;have q:=zw8 f W a h hs;rw[hr]at q;simp only[errV]at q;obtain⟨x,V⟩:∃x,(keyO f.data.toList).1=x:=⟨_,rfl⟩;rw[V]at q;have J:Hid ((keyO f.data.toList).1=x):=V;clear V hr;have D:B<=W.heap.size:=Nat.le_trans L.low (Nat.le_of_lt (lt_of_block L.box));have S:Hid (∀j,P<=j->j<Q->v.ownBlock≠some j):=I;clear I
 go_enter Tryz.func192,Tryz.ntmps192
 go_wp2_with fail
 refine q.mono ?_;rintro e s ⟨rfl,t⟩;clear q;have m:=L.below t;have ab:∃g c,v= .slice (some ⟨g,0,none⟩) (k+1) c:=zf0 (n:=k) (by rw[<-C];exact m.own);obtain⟨g,X,rfl⟩:=ab;have an:=cell_of_one m.box;have ac:=free_of_one m.box;have M:KeysAt s (.slice (some ⟨g,0,none⟩) (k+1) X) d:=zi7 m.own;have p0:s.cell? ⟨g,k,none⟩=some (.int .i64 d[k]):=by
  rcases M with⟨_,_,e,e'⟩|⟨b,o,am,e,H⟩
  ·rw[e']at C;simp at C
  ·injection e with e1;injection e1 with e1;injection e1 with e1 e2;subst e1 e2;have:=H k aj;simpa using this
 clear L M;have HY:Hid (∃y,d[k]=y):=⟨_,rfl⟩;obtain⟨y,Y⟩:=HY.out;have N:Hid (d[k]=y):=Y;rw[Y]at p0;clear Y HY;have ao:(0:Int)<(k:Int)+1:=by omega
 have ap:(k:Int)<(k:Int)+1:=by omega
 have aq:(0:Int)<=(k:Int):=by omega
 have ar:IntKind.i64.wrap (k:Int)=(k:Int):=IntWalk.i64_in _ (by omega);have au:Hid (d.length=k+1):=C;have O:Hid (d.length<=100000):=hl;clear C hl;by_cases av:x<=y
 ·have ho:=(h.below t).order;clear m ac;go_wp2
  go_quiet (fail)
  go_wp2;go_ret2;refine⟨fun _=>⟨rfl,za4 t _⟩,fun h9=>?_⟩;rw[J.out,N.out]at h9;omega
 ·have E:BL s (s.alloc (.cells #[.int .i64 x] 3)):=alB _ _;have F:Below B W (s.alloc (.cells #[.int .i64 x] 3)):=(trB t E).mono D;have r:Hid (BoxK (s.alloc (.cells #[.int .i64 x] 3)) B p (.slice (some ⟨g,0,none⟩) (k+1) X) d):=m.below E;clear m
  go_wp2_with (at_builtin;refine wpList_append_own_at _ rfl _ _ 69 rfl B 3 i0 (.int .i64 0) 1 8 Tryz.underlying69 af ag ah U rfl (by decide) (.slice (some ⟨g,0,none⟩) (k+1) X) d.length (d.map (Value.int .i64)) rfl r.out.own ⟨s.heap.size,0,none⟩ 1 1 [.int .i64 x] rfl ?qd1 ?qd2 ?qd3 ?qd4 ?qd5 ?qd6 ?_)
  case qd1=>rfl
  case qd2=>exact zb6 _ _ _
  case qd3=>intro u hu;simp at hu;subst hu;rfl
  case qd4=>have:=O.out;unfold maxLen;omega
  case qd5=>have:=O.out;omega
  case qd6=>exact Nat.le_trans D F.size
  intro v7 K l i _ A;obtain⟨Z,z,rfl⟩:=zf0 l;obtain⟨aa,R⟩:=zw9 (x:=x) r.out l i (by simpa using A);have ak:=cell_of_one R;have al:=free_of_one R;have ad:Below B W K:=F.grown i (Nat.le_trans D F.size) (fun k C=>zq2 r.out.own C);have ae:Below B W (K.setCell ⟨p,0,none⟩ (.slice (some ⟨Z,0,none⟩) (d.length+1) z)):=ad.setCell r.out.low _;have T:BL W (s.alloc (.cells #[.int .i64 x] 3)):=trB t E;have G:Hid (InvK B p P Q (K.setCell ⟨p,0,none⟩ (.slice (some ⟨Z,0,none⟩) (d.length+1) z)) (d++ [x])/\∀j,P<=j->j<Q->(K.setCell ⟨p,0,none⟩ (.slice (some ⟨Z,0,none⟩) (d.length+1) z)).heap[j]? =W.heap[j]?):=za4d (x:=x) r.out l i (by simpa using A) T S.out ai hq;clear l i A aa;go_wp2;go_ret2;refine⟨fun h9=>?_,fun _=>⟨by rw[J.out];rfl,by rw[J.out];exact G.out.1,G.out.2,ae⟩⟩;rw[J.out,N.out]at h9;omega
theorem zb4o (a:Nat->Addr) (g B P Q:Nat) (D:B<=P):Taker goneK a (fun W=>EnvD0 W a) 192 g B P Q (InvK B g P Q) where
 env:=fun h=>h
 ent:=enters_of Tryz.func192 (by kernel_rfl) rfl
 low:=D
 keep:=fun h c=>h.keep c
 set:=fun j o u h1 h2 h=>h.set j o u h1 h2
 take:=fun W line acc hE hI hQ hs hl=>by
  have y:Hid (InvK B g P Q W acc):=hI;obtain⟨⟨v,m,z⟩,r,A⟩:=hI;have n:B<=W.heap.size:=Nat.le_trans m.low (Nat.le_of_lt (lt_of_block m.box));show Calls _ _ _ _ fun e w'=>Below B W w'/\_/\((stepE goneK acc line.data.toList≠0/\_)\/(stepE goneK acc line.data.toList=0/\_));have b:stepE goneK acc line.data.toList=if (keyO line.data.toList).2≠0 then (keyO line.data.toList).2 else if acc≠ []/\decide ((keyO line.data.toList).1<=acc.getLastD 0)=true then 9 else 0:=rfl;by_cases i:(keyO line.data.toList).2≠0
  ·rw[if_pos i]at b;refine(zb4l line g W a hE hs i).mono fun e w' ⟨f,c⟩=>⟨c.mono n,fun j h1 h2=>c.block j (by omega),Or.inl ⟨by rw[b];exact i,by rw[f,b],y.out.keep c⟩⟩
  ·have p:(keyO line.data.toList).2=0:=Classical.byContradiction i;rw[if_neg i]at b;by_cases l:acc= []
   ·subst l;rw[if_neg (by simp)]at b;exact(zb4m line g B v W a hE m P Q z r A hs p).mono fun e w' ⟨f,s,t,c⟩=>⟨c,t,Or.inr ⟨b,f,s⟩⟩
   ·obtain⟨k,C⟩:∃k,acc.length=k+1:=⟨acc.length-1,by have:=List.length_pos_iff.2 l;omega⟩;have q:k<acc.length:=by omega
    rw[zq3 acc k _ C q]at b;refine(zb4n line g B k v acc W a hE m hs hl P Q z r A C q p).mono fun e w' ⟨h1,h2⟩=>?_;by_cases c:(keyO line.data.toList).1<=acc[k]
    ·rw[if_pos ⟨l,by simpa using c⟩]at b;obtain⟨f,d⟩:=h1 c;exact⟨d.mono n,fun j q1 q2=>d.block j (by omega),Or.inl ⟨by rw[b];decide,by rw[f,b],y.out.keep d⟩⟩
    ·rw[if_neg (fun e=>c (by simpa using e.2))]at b;obtain⟨f,s,t,d⟩:=h2 c;exact⟨d,t,Or.inr ⟨b,f,s⟩⟩
def NewAt (w:World) (v:Value):Prop:= ∀k,v.ownBlock=some k->w.heap.size<=k
def GonePost (w:World) (a:Nat->Addr) (D:List Int×Nat×Option Nat) (e:Ending) (w':World):Prop :=
 BL w w'/\((D.2.1=0/\∃v,e= .returned (.tuple #[v,.nilIface])/\KeysAt w' v D.1/\NewAt w v) \/
  (D.2.1≠0/\D.1= []/\D.2.2=none/\e= .returned (.tuple #[.slice none 0 0,errV a D.2.1])) \/
  (D.2.1≠0/\D.1= []/\∃at_,D.2.2=some at_/\∃fb,e= .returned (.tuple #[.slice none 0 0,.iface 101 (.pointer (some ⟨fb,0,none⟩))])/\w'.cell? ⟨fb,0,none⟩=some (.int .i64 at_)/\w'.cell? ⟨fb,1,none⟩=some (errV a D.2.1)))
theorem za4e (s:ByteArray) (w:World) (a:Nat->Addr) (h:EnvD0 w a) (P:s.size<=maxLen) :
  Calls Tryz.prog 168 #[.string s] w fun e w'=>GonePost w a (goneO s.data.toList) e w':=by
 have d:BL w (w.alloc (.cells #[.slice none 0 0] 69)):=alB _ _;have f:BoxK (w.alloc (.cells #[.slice none 0 0] 69)) w.heap.size w.heap.size (.slice none 0 0) []:=⟨heap_alloc_new _ _,World.ownsRow_nil _ _ _ _,by simp[Value.ownBlock],Nat.le_refl _⟩;have o:(w.alloc (.cells #[.slice none 0 0] 69)).heap.size=w.heap.size+1:=by simp
 have c:=za3n goneK ⟨#[103,111,110,101]⟩ s rfl (w.alloc (.cells #[.slice none 0 0] 69)) a (fun W=>EnvD0 W a) 192 w.heap.size w.heap.size (fun Q=>InvK w.heap.size w.heap.size (w.heap.size+1) Q) (by omega) (fun W' hW=>h.below (d.trans hW))
  (fun Q=>by rw[o];exact zb4o a w.heap.size w.heap.size (w.heap.size+1) Q (Nat.le_succ _))
  (fun Q W' hW hQ=>⟨⟨_,f.below hW,fun j _ _=>by simp[Value.ownBlock]⟩,Nat.lt_succ_self _,hQ⟩) P
 have G:goneO s.data.toList=readG goneK s.data.toList:=rfl;rw[G];generalize readG goneK s.data.toList=D at c ⊢;clear f o G
 go_enter Tryz.func168,Tryz.ntmps168
 go_wp2_with fail
 generalize w.alloc (.cells #[.slice none 0 0] 69)=S at c d ⊢;refine c.mono ?_;rintro e n ⟨I,z⟩;clear c;have g:BL w n:=d.trans I;rcases z with⟨m,rfl,Q,A⟩|⟨m,B,C,rfl⟩|⟨m,B,t,C,F,rfl,J,K⟩
 ·obtain⟨⟨v,b,_⟩,_,_⟩:=A;have L:=cell_of_one b.box;have p:=zi7 b.own;obtain⟨q,H,rfl⟩:=zq1 b.own;have r:Hid (KeysAt n (.slice q D.1.length H) D.1):=p;have i:Hid (NewAt w (.slice q D.1.length H)):=fun k hk=>(b.own.lt k hk).1;clear b p;obtain⟨u,l⟩:∃u,D.1.length=u:=⟨_,rfl⟩;have R:Hid (D.1.length=u):=l;rw[l]at L r i;clear l;go_wp2;go_ret2;exact⟨g,Or.inl ⟨m,_,rfl,r.out,i.out⟩⟩
 ·obtain⟨E,y⟩:∃E,D.2.1=E+1:=⟨D.2.1-1,by omega⟩;have M:Hid (D.2.1=E+1):=y;rw[y];simp only[errV];clear y;go_wp2;go_ret2;exact⟨g,Or.inr (Or.inl ⟨m,B,C,by rw[M.out];rfl⟩)⟩
 ·have N:Hid (n.cell? ⟨F,0,none⟩=some (.int .i64 t)):=J;have O:Hid (n.cell? ⟨F,1,none⟩=some (errV a D.2.1)):=K;clear J K;go_wp2;go_ret2;exact⟨g,Or.inr (Or.inr ⟨m,B,t,C,F,rfl,N.out,O.out⟩)⟩
structure EnvF (w:World) (a:Nat->Addr):Prop where
 data:EnvD w a
 kind:w.cell? ⟨4,0,none⟩=some (.iface 325 (.pointer (some (a 3))))
theorem EnvF.below {w w':World} {a:Nat->Addr} (h:EnvF w a) (b:BL w w'):EnvF w' a:=⟨h.data.below b,za0 b h.kind⟩
structure EnvN (w:World) (a:Nat->Addr):Prop where
 base:EnvS w
 bound:w.cell? ⟨0,0,none⟩=some (.iface 325 (.pointer (some (a 1))))
 name:w.cell? ⟨7,0,none⟩=some (.iface 325 (.pointer (some (a 4))))
theorem EnvN.below {w w':World} {a:Nat->Addr} (h:EnvN w a) (b:BL w w'):EnvN w' a:=⟨h.base.below b,za0 b h.bound,za0 b h.name⟩
theorem Env.n {w:World} {a:Nat->Addr} (h:Env w a):EnvN w a:=⟨h.s,h.bound,h.name⟩
structure EnvK (w:World) (a:Nat->Addr):Prop where
 env:EnvN w a
 kind:w.cell? ⟨4,0,none⟩=some (.iface 325 (.pointer (some (a 3))))
theorem EnvK.below {w w':World} {a:Nat->Addr} (h:EnvK w a) (b:BL w w'):EnvK w' a:=⟨h.env.below b,za0 b h.kind⟩
theorem EnvF.lean {w:World} {a:Nat->Addr} (h:EnvF w a):EnvK w a:=⟨h.data.env.n,h.kind⟩
def flV (f:Fl):Value:=.agg #[.string f.1,.string f.2.1,.int .i64 f.2.2.1,.int .i64 f.2.2.2.1,.int .i64 f.2.2.2.2.1,.int .i64 f.2.2.2.2.2]
theorem za4f (n:Int) (w:World):Calls Tryz.prog 132 #[.int .i64 n] w fun e w'=>e= .returned (.bool (cntB n))/\w'=w:=by
 by_cases c:1<=n
 ·by_cases d:n<=1073741824
  ·have b:cntB n=true:=by simp[cntB,c,d]
   rw[b]
   go_enter Tryz.func132,Tryz.ntmps132
   go_wp2;go_ret;exact⟨rfl,rfl⟩
  ·have b:cntB n=false:=by simp[cntB,d]
   rw[b]
   go_enter Tryz.func132,Tryz.ntmps132
   go_wp2;go_ret;exact⟨rfl,rfl⟩
 ·have b:cntB n=false:=by simp[cntB,c]
  rw[b]
  go_enter Tryz.func132,Tryz.ntmps132
  go_wp2;go_ret;exact⟨rfl,rfl⟩
theorem zf9 {s:List UInt8} (h:pathO s=none):pathR s=([],0,5):=by unfold pathR;rw[h]
theorem zd0 {s:List UInt8} {g:Bool} {n:Int} (h:pathO s=some (g,n)):pathR s=(kindL g,n,0):=by unfold pathR;rw[h]
theorem zc8 (l:List UInt8):(bytesOf l).data.toList=l:=by simp[bytesOf]
theorem zl3 (p:ByteArray) (w:World) (a:Nat->Addr) (h:EnvN w a) (hp:p.size<=100000) :
  Calls Tryz.prog 90 #[.string p] w fun e w'=>e= .returned (.tuple #[.string (bytesOf (pathR p.data.toList).1),.int .i64 (pathR p.data.toList).2.1,errV a (pathR p.data.toList).2.2])/\BL w w':=by
 obtain⟨m,Y⟩:=h.base.maxl;have hcut:=Tryz.strings_Cut p ⟨#[47]⟩ m w (by omega) Y;have D:=zb2q p.data.toList;have I:(Lib.cut p.data.toList [47]).2.1.length<=p.size:=by
  rw[<-za3];rcases zg8 47 p.data.toList with⟨_,k⟩|⟨x,y,Z,_,k⟩
  ·rw[k];simp
  ·rw[k,Z];simp;omega
 have T:(⟨(Lib.cut p.data.toList [47]).1.toArray⟩:ByteArray)=bytesOf (Lib.cut p.data.toList [47]).1:=rfl;have U:(⟨(Lib.cut p.data.toList [47]).2.1.toArray⟩:ByteArray)=bytesOf (Lib.cut p.data.toList [47]).2.1:=rfl;dsimp only at hcut;rw[T,U]at hcut;clear T U Y;generalize Lib.cut p.data.toList [47]=C at hcut D I;obtain⟨j,v,aa⟩:=C;dsimp only at hcut D I;have r:=fun W (hW:EnvS W)=>za2y (bytesOf v) W hW (by rw[zd9];unfold maxLen;omega);rw[zc8]at r;have c:(bytesOf j).data.toList=j:=zc8 j;generalize Q:bytesOf j=B at hcut c;have V:Hid (bytesOf j=B):=Q;clear Q;generalize bytesOf v=wB at hcut r;have N:Hid (pathO p.data.toList=if j=kData then (pathN v).map fun n=>(false,n) else if j=kGone then (pathN v).map fun n=>(true,n) else none):=D;clear D I
 go_enter Tryz.func90,Tryz.ntmps90
 go_wp2_with fail
 refine hcut.mono ?_;rintro e w1 ⟨rfl,q,rfl⟩;clear hcut;have E:BL w (w.drewN q):=za4 (Below.refl _ _) q;have d:=r _ (h.below E).base;clear r;have O:∀(b:Bool),pathO p.data.toList=none->∀W,BL w W->(Ending.returned (.tuple #[.string ⟨#[]⟩,.int .i64 0,.iface 325 (.pointer (some (a 4)))])=Ending.returned (.tuple #[.string (bytesOf (pathR p.data.toList).1),.int .i64 (pathR p.data.toList).2.1,errV a (pathR p.data.toList).2.2])/\BL w W):=fun _ hp0 W hW=>by
  rw[zf9 hp0];exact⟨rfl,hW⟩
 have u:Hid (∀(b:Bool),pathO p.data.toList=none->∀W,BL w W->(Ending.returned (.tuple #[.string ⟨#[]⟩,.int .i64 0,.iface 325 (.pointer (some (a 4)))])=Ending.returned (.tuple #[.string (bytesOf (pathR p.data.toList).1),.int .i64 (pathR p.data.toList).2.1,errV a (pathR p.data.toList).2.2])/\BL w W)):=O;clear O;by_cases M:∃g,j=kindL g
 ·obtain⟨g,f⟩:=M;unfold numR at d;have S:Hid (pathO p.data.toList=(pathN v).map fun n=>(g,n)):=by
   show _=_;rw[N.out];cases g
   ·rw[if_pos (show j=kData from f)]
   ·rw[if_neg (by rw[f];decide),if_pos (show j=kGone from f)]
  cases H:numO v with
  | none =>
   rw[H]at d;dsimp only at d;have A:Hid (pathO p.data.toList=none):=by
    show _=_;rw[S.out];unfold pathN;rw[H];rfl
   clear H
   go_wp2_with fail
   refine d.mono ?_;rintro e G ⟨rfl,z⟩;clear d;have i:BL w G:=trB E z;have X:=(h.below i).name;cases g
   ·have t:=za6 (c.trans f);simp only[kindL,Bool.false_eq_true,if_false,kData]at t;clear f c;go_wp2
    go_region
    go_wp2
    go_ret3
    exact u.out true A.out _ i.drew
   ·have t:=za7 (s:=B) (l:= [100,97,116,97]) (by rw[c,f];decide);have F:=za6 (c.trans f);simp only[kindL,if_true,kGone]at F;clear f c;go_wp2
    go_region
    go_wp2
    go_ret3
    exact u.out true A.out _ i.drew
  | some n =>
   rw[H]at d;dsimp only at d;have A:Hid (numO v=some n):=H;clear H
   go_wp2_with fail
   refine d.mono ?_;rintro e G ⟨rfl,z⟩;clear d;have i:BL w G:=trB E z;have X:=(h.below i).name;have o:=za4f n G
   cases k:cntB n with
   | false =>
    rw[k]at o;have J:Hid (pathO p.data.toList=none):=by
     show _=_;rw[S.out];unfold pathN;rw[A.out];simp[k]
    clear k;cases g
    ·have t:=za6 (c.trans f);simp only[kindL,Bool.false_eq_true,if_false,kData]at t;clear f c
     go_wp2_with (go_at_call 132;refine o.mono ?_;rintro e w' ⟨rfl,rfl⟩)
     go_region
     go_wp2
     go_ret3
     exact u.out true J.out _ i.drew
    ·have t:=za7 (s:=B) (l:= [100,97,116,97]) (by rw[c,f];decide);have F:=za6 (c.trans f);simp only[kindL,if_true,kGone]at F;clear f c
     go_wp2_with (go_at_call 132;refine o.mono ?_;rintro e w' ⟨rfl,rfl⟩)
     go_region
     go_wp2
     go_ret3
     exact u.out true J.out _ i.drew
   | true =>
    rw[k]at o;have J:Hid (pathO p.data.toList=some (g,n)):=by
     show _=_;rw[S.out];unfold pathN;rw[A.out];simp[k]
    have P:Hid (B=bytesOf (kindL g)):=by
     show _=_;rw[<-V.out,f]
    clear k;cases g
    ·have t:=za6 (c.trans f);simp only[kindL,Bool.false_eq_true,if_false,kData]at t;clear f c
     go_wp2_with (go_at_call 132;refine o.mono ?_;rintro e w' ⟨rfl,rfl⟩)
     go_ret3
     exact⟨by rw[zd0 J.out,P.out];rfl,i⟩
    ·have t:=za7 (s:=B) (l:= [100,97,116,97]) (by rw[c,f];decide);have F:=za6 (c.trans f);simp only[kindL,if_true,kGone]at F;clear f c
     go_wp2_with (go_at_call 132;refine o.mono ?_;rintro e w' ⟨rfl,rfl⟩)
     go_ret3
     exact⟨by rw[zd0 J.out,P.out];rfl,i⟩
 ·have K:j≠kData:=fun e=>M ⟨false,e⟩;have L:j≠kGone:=fun e=>M ⟨true,e⟩;have A:Hid (pathO p.data.toList=none):=by
   show _=_;rw[N.out,if_neg K,if_neg L]
  have t:=za7 (s:=B) (l:= [100,97,116,97]) (by rw[c];exact K);have F:=za7 (s:=B) (l:= [103,111,110,101]) (by rw[c];exact L);clear M K L c;generalize numR v=R at d;obtain⟨nv,bv⟩:=R;dsimp only at d
  go_wp2_with fail
  refine d.mono ?_;rintro e G ⟨rfl,z⟩;clear d;have i:BL w G:=trB E z;have X:=(h.below i).name;go_wp2
  go_region
  go_wp2
  go_ret3
  exact u.out true A.out _ i.drew
theorem zb4p (p:ByteArray) (w:World) (a:Nat->Addr) (h:Env w a) (b:p.size<=100000) :
  Calls Tryz.prog 90 #[.string p] w fun e w'=>e= .returned (.tuple #[.string (bytesOf (pathR p.data.toList).1),.int .i64 (pathR p.data.toList).2.1,errV a (pathR p.data.toList).2.2])/\BL w w' :=
 zl3 p w a h.n b
theorem zb4q (g:Bool) (q:ByteArray) (w:World) (j:q.size<=maxLen) :
  Calls Tryz.prog 130 #[.string (bytesOf (kindL g)),.string q] w fun e w'=>e= .returned (.bool (partB g q.data.toList))/\w'=w:=by
 cases g
 ·have d:Calls Tryz.prog 162 #[.string q,.int .i64 12] w fun e w'=>e= .returned (.bool (partB false q.data.toList))/\w'=w:=zv6 q 12 w j (by omega);generalize partB false q.data.toList=r at d ⊢;have c:=za7 (s:=bytesOf (kindL false)) (l:= [103,111,110,101]) (by rw[zc8];decide);generalize bytesOf (kindL false)=i at c
  go_enter Tryz.func130,Tryz.ntmps130
  go_wp2_with (go_at_call 162;refine d.mono ?_;rintro e w' ⟨rfl,rfl⟩)
  go_ret;exact⟨rfl,rfl⟩
 ·have c:=za6 (s:=bytesOf (kindL true)) (l:= [103,111,110,101]) (by rw[zc8];rfl);generalize bytesOf (kindL true)=i at c;by_cases h:q.data.toList= [45]
  ·have b:partB true q.data.toList=true:=by simp[partB,h]
   rw[b];have f:=za6 h;clear b h
   go_enter Tryz.func130,Tryz.ntmps130
   go_wp2;go_ret;exact⟨rfl,rfl⟩
  ·have b:partB true q.data.toList=false:=by simp[partB,h]
   rw[b];have f:=za7 h;clear b h
   go_enter Tryz.func130,Tryz.ntmps130
   go_wp2;go_ret;exact⟨rfl,rfl⟩
def FlAt (W:World) (b:Nat) (f:Fl):Prop:=W.heap[b]? =some (.cells #[.string f.1,.string f.2.1,.int .i64 f.2.2.1,.int .i64 f.2.2.2.1,.int .i64 f.2.2.2.2.1,.int .i64 f.2.2.2.2.2] 43 (0,0))
theorem FlAt.lt {W:World} {b:Nat} {f:Fl} (h:FlAt W b f):b<W.heap.size:=lt_of_block h
theorem FlAt.below {W c:World} {b:Nat} {f:Fl} (h:FlAt W b f) (d:BL W c):FlAt c b f:=(d.block b h.lt).trans h
theorem FlAt.cells {W:World} {b:Nat} {f:Fl} (h:FlAt W b f):W.cell? ⟨b,0,none⟩=some (.string f.1)/\W.cell? ⟨b,1,none⟩=some (.string f.2.1)/\W.cell? ⟨b,2,none⟩=some (.int .i64 f.2.2.1)/\W.cell? ⟨b,3,none⟩=some (.int .i64 f.2.2.2.1)/\W.cell? ⟨b,4,none⟩=some (.int .i64 f.2.2.2.2.1)/\W.cell? ⟨b,5,none⟩=some (.int .i64 f.2.2.2.2.2)/\∀o,W.frozen? ⟨b,o,none⟩=false:=by
 unfold FlAt at h;exact⟨by rw[cell_of_row _ _ _ _ _ _ h];rfl,by rw[cell_of_row _ _ _ _ _ _ h];rfl,by rw[cell_of_row _ _ _ _ _ _ h];rfl,by rw[cell_of_row _ _ _ _ _ _ h];rfl,by rw[cell_of_row _ _ _ _ _ _ h];rfl,by rw[cell_of_row _ _ _ _ _ _ h];rfl,fun o=>frozen_of_row _ _ _ _ _ h⟩
theorem FlAt.new (w:World) (f:Fl):FlAt (w.alloc (.cells #[.string f.1,.string f.2.1,.int .i64 f.2.2.1,.int .i64 f.2.2.2.1,.int .i64 f.2.2.2.2.1,.int .i64 f.2.2.2.2.2] 43)) w.heap.size f:=heap_alloc_new _ _
theorem za4g (f:Fl) (w:World) (a:Nat->Addr) (h:EnvK w a) (h1:f.1.size<=100000) (h2:f.2.1.size<=100000) :
  Calls Tryz.prog 88 #[flV f] w fun e w'=>e= .returned (errV a (fileE f))/\BL w w':=by
 have s:BL w (w.alloc (.cells #[.string f.1,.string f.2.1,.int .i64 f.2.2.1,.int .i64 f.2.2.2.1,.int .i64 f.2.2.2.2.1,.int .i64 f.2.2.2.2.2] 43)):=alB _ _;have z:=FlAt.new w f;obtain⟨p,q,n,i,j,d⟩:=f;dsimp only at h1 h2 s;have A:=zl3 p _ a (h.below s).env h1;unfold flV;dsimp only;generalize Z:fileE (p,q,n,i,j,d)=E;have Q:Hid (fileE (p,q,n,i,j,d)=E):=Z;clear Z
 go_enter Tryz.func88,Tryz.ntmps88
 go_wp2_with fail
 generalize w.alloc (.cells #[.string p,.string q,.int .i64 n,.int .i64 i,.int .i64 j,.int .i64 d] 43)=WA at s z A ⊢;refine A.mono ?_;rintro e Y ⟨rfl,I⟩;clear A;have b:BL w Y:=trB s I;have B:=z.below I;obtain⟨K,L,M,N,O,P,X⟩:=B.cells;dsimp only at K L M N O P;clear z B
 cases v:pathO p.data.toList with
 | none =>
  have c:E=5:=by rw[<-Q.out];unfold fileE;dsimp only;rw[v]
  subst c;rw[zf9 v];simp only[errV];clear v K L M N O P X;go_wp2;go_ret;exact⟨rfl,b⟩
 | some gn =>
  obtain⟨g,k⟩:=gn;rw[zd0 v];have F:Hid (E=if partB g q.data.toList then (if bndB (p,q,n,i,j,d) then 0 else 2) else 4):=by
   show _=_;rw[<-Q.out];unfold fileE;dsimp only;rw[v]
  simp only[errV];clear v;have G:=zb4q g q Y (by unfold maxLen;omega)
  go_wp2_with fail
  refine G.mono ?_;rintro e w2 ⟨rfl,J⟩;rw[J];clear G J;have ek:=(h.below b).kind;have eb:=(h.below b).env.bound
  cases t:partB g q.data.toList with
  | false =>
   have c:=F.out;rw[t]at c;simp only[Bool.false_eq_true,if_false]at c;subst c;clear t K L M N O P X;go_wp2;go_ret;exact⟨rfl,b⟩
  | true =>
   have c:=F.out;rw[t,if_pos rfl]at c;have R:Hid (E=if bndB (p,q,n,i,j,d) then 0 else 2):=c;clear c t;have H:bndB (p,q,n,i,j,d)=false->E=2:=fun hb=>by rw[R.out,hb];rfl
   have l:Hid (bndB (p,q,n,i,j,d)=false->E=2):=H;clear H;by_cases S:1<=n
   ·by_cases T:n<=40
    ·have r:=fun W=>zk8 i W;have u:=fun W=>zk8 j W
     cases m:inNum i with
     | false =>
      obtain rfl:=l.out (by simp[bndB,m]);rw[m]at r;clear m
      go_wp2_with (go_at_call 131;refine(r _).mono ?_;rintro e w' ⟨rfl,rfl⟩)
      go_ret;exact⟨rfl,b⟩
     | true =>
      rw[m]at r
      cases o:inNum j with
      | false =>
       obtain rfl:=l.out (by simp[bndB,o]);rw[o]at u;clear m o
       go_wp2_with (first | (go_at_call 131;refine(r _).mono ?_;rintro e w' ⟨rfl,rfl⟩) | (go_at_call 131;refine(u _).mono ?_;rintro e w' ⟨rfl,rfl⟩))
       go_ret;exact⟨rfl,b⟩
      | true =>
       rw[o]at u;by_cases U:i<=j
       ·have V:¬j<i:=by omega
        have C:=fun W=>za4f d W
        cases y:cntB d with
        | false =>
         obtain rfl:=l.out (by simp[bndB,y]);rw[y]at C;clear m o y
         go_wp2_with (first | (go_at_call 131;refine(r _).mono ?_;rintro e w' ⟨rfl,rfl⟩) | (go_at_call 131;refine(u _).mono ?_;rintro e w' ⟨rfl,rfl⟩) | (go_at_call 132;refine(C _).mono ?_;rintro e w' ⟨rfl,rfl⟩))
         go_ret;exact⟨rfl,b⟩
        | true =>
         have D:E=0:=by
          rw[R.out,if_pos];simp[bndB,S,T,m,o,U,y]
         subst D;rw[y]at C;clear m o y
         go_wp2_with (first | (go_at_call 131;refine(r _).mono ?_;rintro e w' ⟨rfl,rfl⟩) | (go_at_call 131;refine(u _).mono ?_;rintro e w' ⟨rfl,rfl⟩) | (go_at_call 132;refine(C _).mono ?_;rintro e w' ⟨rfl,rfl⟩))
         go_ret;exact⟨rfl,b⟩
       ·obtain rfl:=l.out (by simp[bndB,U]);have V:j<i:=by omega
        clear m o
        go_wp2_with (first | (go_at_call 131;refine(r _).mono ?_;rintro e w' ⟨rfl,rfl⟩) | (go_at_call 131;refine(u _).mono ?_;rintro e w' ⟨rfl,rfl⟩))
        go_ret;exact⟨rfl,b⟩
    ·obtain rfl:=l.out (by simp[bndB,T]);have aa:40<n:=by omega
     go_wp2;go_ret;exact⟨rfl,b⟩
   ·obtain rfl:=l.out (by simp[bndB,S]);have ab:n<1:=by omega
    go_wp2;go_ret;exact⟨rfl,b⟩
def encF (f:Fl):List Value:= [.string f.1,.string f.2.1,.int .i64 f.2.2.1,.int .i64 f.2.2.2.1,.int .i64 f.2.2.2.2.1,.int .i64 f.2.2.2.2.2]
def FlCells (w:World) (b o:Nat) (fs:List Fl):Prop :=
 ∀j (h:j<fs.length),w.cell? ⟨b,o+j*6,none⟩=some (.string fs[j].1)/\w.cell? ⟨b,o+j*6+1,none⟩=some (.string fs[j].2.1)/\w.cell? ⟨b,o+j*6+2,none⟩=some (.int .i64 fs[j].2.2.1)/\w.cell? ⟨b,o+j*6+3,none⟩=some (.int .i64 fs[j].2.2.2.1)/\w.cell? ⟨b,o+j*6+4,none⟩=some (.int .i64 fs[j].2.2.2.2.1)/\w.cell? ⟨b,o+j*6+5,none⟩=some (.int .i64 fs[j].2.2.2.2.2)
def FlsAt (w:World) (v:Value) (fs:List Fl):Prop :=
 (∃p c,v= .slice p 0 c/\(p=none->c=0)/\fs= [])\/∃b o cap,v= .slice (some ⟨b,o,none⟩) fs.length cap/\fs.length<=cap/\FlCells w b o fs
theorem FlCells.below {w w':World} {b o:Nat} {d:List Fl} (h:FlCells w b o d) (c:BL w w'):FlCells w' b o d :=
 fun j hj=>⟨za0 c (h j hj).1,za0 c (h j hj).2.1,za0 c (h j hj).2.2.1,za0 c (h j hj).2.2.2.1,za0 c (h j hj).2.2.2.2.1,za0 c (h j hj).2.2.2.2.2⟩
theorem FlsAt.below {w w':World} {v:Value} {d:List Fl} (h:FlsAt w v d) (j:BL w w'):FlsAt w' v d:=by
 rcases h with h | ⟨b,o,c,f,g,i⟩
 ·exact Or.inl h
 ·exact Or.inr ⟨b,o,c,f,g,i.below j⟩
theorem FlsAt.form {w:World} {v:Value} {d:List Fl} (h:FlsAt w v d):∃p c,v= .slice p d.length c:=by
 rcases h with⟨p,c,rfl,_,rfl⟩|⟨b,o,f,rfl,_⟩
 ·exact⟨_,_,rfl⟩
 ·exact⟨_,_,rfl⟩
theorem FlsAt.cells {w:World} {q:Option Addr} {n c:Nat} {d:List Fl} (h:FlsAt w (.slice q n c) d) (f:d≠ []):∃b o,q=some ⟨b,o,none⟩/\FlCells w b o d:=by
 rcases h with⟨_,_,_,_,e⟩|⟨b,o,i,e,_,g⟩
 ·exact absurd e f
 ·simp only[Value.slice.injEq]at e;exact⟨b,o,e.1,g⟩
theorem FlsAt.room {w:World} {q:Option Addr} {n c:Nat} {d:List Fl} (h:FlsAt w (.slice q n c) d):n=d.length/\(d≠ []->n<=c):=by
 rcases h with⟨p,i,e,_,rfl⟩|⟨b,o,g,e,f,j⟩
 ·simp only[Value.slice.injEq]at e;exact⟨e.2.1,fun h=>absurd rfl h⟩
 ·simp only[Value.slice.injEq]at e;obtain⟨_,rfl,rfl⟩:=e;exact⟨rfl,fun _=>f⟩
def flatF (fs:List Fl):List Value:=fs.flatMap encF
theorem zh1 (f:Fl):(encF f).length=6:=rfl
theorem zc5 (f:Fl):∀u∈encF f,u.oneCell'=true:=by
 intro u b;simp only[encF,List.mem_cons,List.not_mem_nil,or_false]at b;rcases b with rfl | rfl | rfl | rfl | rfl | rfl<;>rfl
theorem zb2:∀fs:List Fl,(flatF fs).length=fs.length*6
 | []=>rfl
 | f :: fs=>by
  have:=zb2 fs;simp only[flatF,List.flatMap_cons,List.length_append,List.length_cons]at *;rw[this,zh1];omega
theorem ze0 (d:List Fl):∀u∈flatF d,u.oneCell'=true:=by
 intro u b;simp only[flatF,List.mem_flatMap]at b;obtain⟨f,_,c⟩:=b;exact zc5 f u c
theorem zb7 (xs b:List Fl):flatF (xs++b)=flatF xs++flatF b:=by simp[flatF]
theorem zl4:∀(fs:List Fl) (j c:Nat) (h:j<fs.length),c<6->(flatF fs)[j*6+c]? =(encF fs[j])[c]?
 | [],j,_,h,_=>by simp at h
 | f :: fs,0,c,_,hc=>by
  simp only[flatF,List.flatMap_cons,Nat.zero_mul,Nat.zero_add,List.getElem_cons_zero];rw[List.getElem?_append_left (by rw[zh1];exact hc)]
 | f :: fs,j+1,c,h,hc=>by
  have b:j<fs.length:=by simp at h;omega
  have:=zl4 fs j c b hc;simp only[flatF,List.flatMap_cons,List.getElem_cons_succ]at *;rw[List.getElem?_append_right (by rw[zh1];omega),zh1,show (j+1)*6+c-6=j*6+c by omega];exact this
theorem zq4 {w:World} {b o:Nat} {f:List Fl} (h:FlCells w b o f):∀t u,(flatF f)[t]? =some u->w.cell? ⟨b,o+t,none⟩=some u:=by
 intro t u c;have j:t<(flatF f).length:=by
  rcases Nat.lt_or_ge t (flatF f).length with g | g
  ·exact g
  ·rw[List.getElem?_eq_none g]at c;cases c
 rw[zb2]at j;have i:t / 6<f.length:=by omega
 have e:t=t / 6*6+t % 6:=by omega
 rw[e,zl4 f (t / 6) (t % 6) i (by omega)]at c;obtain⟨k,l,m,n,p,q⟩:=h (t / 6) i;have d:t % 6=0\/t % 6=1\/t % 6=2\/t % 6=3\/t % 6=4\/t % 6=5:=by omega
 rcases d with d | d | d | d | d | d<;>rw [d]at c<;>simp only[encF,List.getElem?_cons_succ,List.getElem?_cons_zero,Option.some.injEq]at c
 ·rw[<-c,<-k];congr 2;omega
 ·rw[<-c,<-l];congr 2;omega
 ·rw[<-c,<-m];congr 2;omega
 ·rw[<-c,<-n];congr 2;omega
 ·rw[<-c,<-p];congr 2;omega
 ·rw[<-c,<-q];congr 2;omega
theorem za4h {w:World} {b o:Nat} {d:List Fl} (h:∀t u,(flatF d)[t]? =some u->w.cell? ⟨b,o+t,none⟩=some u):FlCells w b o d:=fun j hj=>by
 have g:∀c (hc:c<6),w.cell? ⟨b,o+(j*6+c),none⟩=(encF d[j])[c]? :=fun c hc=>by
  have e:=zl4 d j c hj hc;have f:c<(encF d[j]).length:=by rw[zh1];exact hc
  rw[List.getElem?_eq_getElem f]at e ⊢;exact h _ _ e
 refine⟨?_,?_,?_,?_,?_,?_⟩
 ·simpa [encF] using g 0 (by omega)
 ·simpa [encF,Nat.add_assoc] using g 1 (by omega)
 ·simpa [encF,Nat.add_assoc] using g 2 (by omega)
 ·simpa [encF,Nat.add_assoc] using g 3 (by omega)
 ·simpa [encF,Nat.add_assoc] using g 4 (by omega)
 ·simpa [encF,Nat.add_assoc] using g 5 (by omega)
theorem zd3 {w:World} {base:Nat} {v:Value} {n:Nat} {b:List Fl} (h:w.ownsRow base 43 6 v n (flatF b)):FlsAt w v b/\n=b.length:=by
 obtain⟨k,h⟩:=h;have c:n=b.length:=by rw[zb2]at k;omega
 refine⟨?_,c⟩;subst c;rcases h with⟨l,c⟩|⟨g,i,p,rfl,_,m,j,_,_,o⟩
 ·exact Or.inl ⟨none,0,by rw[l],fun _=>rfl,List.length_eq_zero_iff.1 c⟩
 ·refine Or.inr ⟨g,0,i,rfl,j,za4h fun t u hu=>?_⟩;have f:t<b.length*6:=by
   rw[<-zb2];rcases Nat.lt_or_ge t (flatF b).length with d | d
   ·exact d
   ·rw[List.getElem?_eq_none d]at hu;cases hu
  rw[<-o,List.getElem?_take,if_pos f]at hu;simp only[World.cell?,m,Nat.zero_add];simpa using hu
theorem Tryz.fileInfo3:(Tryz.prog.info? 43).map (fun i=>(i.zero,i.size,i.bytes))=some (some (.agg #[.string ⟨#[]⟩,.string ⟨#[]⟩,.int .i64 0,.int .i64 0,.int .i64 0,.int .i64 0]),6,64):=by kernel_rfl
theorem Tryz.fileInfo:∃i0:TypeInfo,Tryz.prog.info? 43=some i0/\i0.zero=some (.agg #[.string ⟨#[]⟩,.string ⟨#[]⟩,.int .i64 0,.int .i64 0,.int .i64 0,.int .i64 0])/\i0.size=6/\i0.bytes=64:=by
 obtain⟨i,b,h⟩:=Option.map_eq_some_iff.1 Tryz.fileInfo3;simp only[Prod.mk.injEq]at h;exact⟨i,b,h.1,h.2.1,h.2.2⟩
theorem zx0 (a b:Nat) (g:a<4294967296) (i:b<4294967296):bits .xor .i64 (a:Int) (b:Int)=((a ^^^ b:Nat):Int):=by
 have f:a ^^^ b<2 ^ 32:=Nat.xor_lt_two_pow (by omega) (by omega);have c:(BitVec.ofInt 64 (a:Int)).toNat=a:=by
  rw[BitVec.ofInt_natCast,BitVec.toNat_ofNat];exact Nat.mod_eq_of_lt (by omega)
 have d:(BitVec.ofInt 64 (b:Int)).toNat=b:=by
  rw[BitVec.ofInt_natCast,BitVec.toNat_ofNat];exact Nat.mod_eq_of_lt (by omega)
 show IntKind.i64.wrap ((BitVec.ofInt 64 (a:Int) ^^^ BitVec.ofInt 64 (b:Int)).toNat:Int)=_;rw[BitVec.toNat_xor,c,d];exact IntWalk.i64_in _ (by omega)
theorem za4i (s:ByteArray) (w:World) (I:s.size<=maxLen):Calls Tryz.prog 122 #[.string s] w fun e w'=>e= .returned (.int .i64 (sumL s.data.toList:Nat))/\w'=w:=by
 unfold maxLen at I
 go_enter Tryz.func122,Tryz.ntmps122
 go_wp2
 go_loop [3,4] (fun c k=> ∃n:Nat,n<=s.size/\k= .int .i64 n/\c= .int .i64 (crcL (s.data.toList.take n):Nat)) (fun _ k=>s.size-(intOf k).toNat)
 case atStart=>exact ⟨0,Nat.zero_le _,rfl,rfl⟩
 case round =>
  obtain⟨n,N,rfl,rfl⟩:=hrel;have b:=zu2 (s.data.toList.take n);by_cases y:n<s.size
  ·have M:(n:Int)<(s.size:Int):=by omega
   have J:(0:Int)<=(n:Int):=by omega
   have l:s.data.toList.take (n+1)=s.data.toList.take n++ [s[n]]:=by
    rw[List.take_succ_eq_append_getElem (by simpa using y)];rfl
   have t:Hid (crcL (s.data.toList.take (n+1))=crcI 8 (crcL (s.data.toList.take n) ^^^ s[n].toNat)):=by
    show _=_;rw[l,za2e];rfl
   clear l;generalize crcL (s.data.toList.take n)=C at b t ⊢;have G:=s[n].toNat_lt;have z:bits .xor .i64 (C:Int) (s[n].toNat:Int)=((C ^^^ s[n].toNat:Nat):Int):=zx0 C s[n].toNat b (by omega);have A:C ^^^ s[n].toNat<4294967296:=Nat.xor_lt_two_pow (n:=32) b (by omega);have K:IntKind.i64.wrap (s[n].toNat:Int)=(s[n].toNat:Int):=IntWalk.i64_in _ (by omega);generalize F:C ^^^ s[n].toNat=D at z A t;clear F;go_wp2
   go_loop [3,5] (fun c j=> ∃m:Nat,m<=8/\j= .int .i64 m/\c= .int .i64 (crcI m D:Nat)) (fun _ j=>8-(intOf j).toNat)
   case atStart=>exact ⟨0,by omega,rfl,rfl⟩
   case round =>
    obtain⟨m,O,rfl,rfl⟩:=hrel;by_cases H:m<8
    ·have L:(m:Int)<8:=by omega
     have B:=za3a m A;have u:=zv7 m D;generalize crcI m D=c at B u ⊢;have o:Hid (crcI (m+1) D=crcF c):=u;clear u;have p:(c:Int).tdiv 2=((c / 2:Nat):Int):=by rw[Int.tdiv_eq_ediv_of_nonneg (by omega)];omega
     have q:(c:Int).tmod 2=((c % 2:Nat):Int):=by rw[Int.tmod_eq_emod_of_nonneg (by omega)];omega
     by_cases g:c % 2=1
     ·rw[g]at q;have E:bits .xor .i64 ((c / 2:Nat):Int) 3988292384=((c / 2 ^^^ 3988292384:Nat):Int):=by
       have:=zx0 (c / 2) 3988292384 (by omega) (by decide);simpa using this
      have d:wrap64 ((c / 2:Nat):Int)=((c / 2:Nat):Int):=IntWalk.wrap64_in _ (by omega);generalize f:c / 2=v at p E d;have i:Hid (c / 2=v):=f;clear f;go_wp2;go_round
      case rel=>exact ⟨m+1,by omega,by go_num,by rw[o.out];unfold crcF;rw[if_pos g,i.out]⟩
      case measure=>simp [intOf];omega
     ·rw[show c % 2=0 by omega]at q;have d:wrap64 ((c / 2:Nat):Int)=((c / 2:Nat):Int):=IntWalk.wrap64_in _ (by omega);generalize f:c / 2=v at p d;have i:Hid (c / 2=v):=f;clear f;go_wp2;go_round
      case rel=>exact ⟨m+1,by omega,by go_num,by rw[o.out];unfold crcF;rw[if_neg g,i.out]<;>(first | rw[d] | simp[d])⟩
      case measure=>simp [intOf];omega
    ·obtain rfl:m=8:=by omega
     rw[<-t.out];go_wp2;go_round
     case rel=>exact ⟨n+1,by omega,by go_num,rfl⟩
     case measure=>simp [intOf];omega
  ·obtain rfl:n=s.size:=by omega
   have r:s.data.toList.take s.size=s.data.toList:=List.take_of_length_le (by rw[za3];exact Nat.le_refl _);rw[r]at b ⊢;have E:bits .xor .i64 (crcL s.data.toList:Int) 4294967295=((sumL s.data.toList:Nat):Int):=zx0 _ _ b (by decide);clear r;go_wp2;go_ret;exact⟨rfl,rfl⟩
def encZ (n:Int):Value:=.int .i64 n
theorem zx1 {w:World} {base:Nat} {v:Value} {b:List Int} (h:w.ownsRow base 3 1 v b.length (b.map encZ)):KeysAt w v b:=by
 obtain⟨n,h⟩:=h;rcases h with⟨f,i⟩|⟨g,d,m,rfl,_,k,o,_,_,l⟩
 ·have:b= []:=List.length_eq_zero_iff.1 i;subst this;exact .inl ⟨none,0,f,rfl⟩
 ·refine .inr ⟨g,0,d,rfl,fun j hj=>?_⟩;have c:(b.map encZ)[j]? =some (.int .i64 b[j]):=by simp[hj,encZ]
  rw[<-l,List.getElem?_take,if_pos (by omega)]at c;simp only[World.cell?,k,Nat.zero_add];simpa using c
theorem zx2 (v:Value) (xs:List Rw) (w:World) (A:RowsAt w v xs) (V:xs.length<=20000) :
  Calls Tryz.prog 75 #[v] w fun e w'=> ∃v',e= .returned v'/\KeysAt w' v' (keysR xs)/\BL w w':=by
 obtain⟨O,H,I,J,y⟩:=Tryz.numInfo;obtain⟨q,W,rfl⟩:=A.form;generalize N:xs.length=L at A V ⊢;have m:Hid (xs.length=L):=N;clear N
 go_enter Tryz.func75,Tryz.ntmps75
 go_wp2
 go_loopw [3,4] (fun out k wr=> ∃n:Nat,n<=L/\k= .int .i64 n/\BL w wr/\wr.ownsRow w.heap.size 3 1 out n ((keysR (xs.take n)).map encZ)) (fun _ k _=>L-(intOf k).toNat)
 case atStart=>exact ⟨0,by omega,rfl,Below.refl _ _,by simp[keysG];exact World.ownsRow_nil _ _ _ _⟩
 case round =>
  obtain⟨n,hn,rfl,j,l⟩:=hrel;have p:Hid (wr.ownsRow w.heap.size 3 1 u3 n ((keysR (xs.take n)).map encZ)):=l;clear l;by_cases B:n<L
  ·have d:n<xs.length:=by rw[m.out];exact B
   have r:=A.below j;rcases r with⟨_,_,e,S⟩|⟨b,o,T,e,c⟩
   ·exfalso;have:=m.out;rw[S]at this;simp at this;omega
   injection e with e1 e2 e3;subst e1;clear e2 e3;obtain⟨P,Q,R⟩:=c n d;clear c;have Z:(n:Int)<(L:Int):=by omega
   have C:Hid ((keysR (xs.take (n+1))).map encZ=(keysR (xs.take n)).map encZ++ [.int .i64 xs[n].2.1]):=by
    show _=_;rw[<-List.take_append_getElem d,zb1v,List.map_append];rfl
   generalize xs[n].2.1=s at Q C;clear P R d;have D:BL wr (wr.alloc (.cells #[.int .i64 s] 3)):=alB _ _;have i:BL w (wr.alloc (.cells #[.int .i64 s] 3)):=j.alloc j.size _
   go_wp2_with (at_builtin;refine wpList_append_own _ rfl _ _ 69 rfl w.heap.size 3 O (.int .i64 0) 1 8 Tryz.underlying69 H I J y rfl (by decide) u3 n ((keysR (xs.take n)).map encZ) rfl ?qc0 ⟨wr.heap.size,0,none⟩ 1 1 [.int .i64 s] rfl ?qc1 ?qc2 ?qc3 ?qc4 ?qc5 ?qc6 ?_)
   case qc0=>exact za2 p.out D
   case qc1=>rfl
   case qc2=>exact zb6 _ _ _
   case qc3=>intro u K;simp at K;subst K;rfl
   case qc4=>unfold maxLen;omega
   case qc5=>omega
   case qc6=>first | exact i.size | (have:=j.size;omega)
   intro v' M f g z;have E:BL w M:=i.grown g i.size (fun k hk=>by
    rcases p.out.2 with⟨e,_⟩|⟨g',U,X,e,Y,_⟩
    ·rw[e]at hk;simp[Value.ownBlock]at hk
    ·rw[e]at hk;simp[Value.ownBlock]at hk;omega)
   have F:Hid (M.ownsRow w.heap.size 3 1 v' (n+1) ((keysR (xs.take n)).map encZ++ [.int .i64 s])):=f;clear f z g;go_wp2;go_roundw
   case rel=>exact ⟨n+1,by omega,by go_num,E,by rw[C.out];exact F.out⟩
   case measure=>simp [intOf];omega
  ·obtain rfl:n=L:=by omega
   have t:xs.take n=xs:=List.take_of_length_le (by rw[m.out];exact Nat.le_refl _);rw[t]at p;have G:Hid (KeysAt wr u3 (keysR xs)):=zx1 (base:=w.heap.size) (by
    have e:(keysR xs).length=n:=by simp[keysG,m.out]
    rw[e];exact p.out)
   clear t;go_wp2;go_ret;exact⟨_,rfl,G.out,j⟩
theorem zq5 (v:Value) (d:List Int) (w:World) (N:KeysAt w v d) (u:d.length<=maxLen) :
  Calls Tryz.prog 82 #[v] w fun e w'=>e= .returned (.tuple #[.int .i64 (endsZ d).1,.int .i64 (endsZ d).2])/\w'=w:=by
 unfold maxLen at u;rcases N with⟨p,c,rfl,rfl⟩|⟨b,o,S,rfl,t⟩
 ·have q:endsZ []=(0,0):=rfl;rw[q];clear u
  go_enter Tryz.func82,Tryz.ntmps82
  go_wp2;go_ret2;exact⟨rfl,rfl⟩
 by_cases s:d.length=0
 ·have D:d= []:=List.length_eq_zero_iff.1 s;subst D;have q:endsZ []=(0,0):=rfl;rw[q];clear u t;have F:([]:List Int).length=0:=rfl;rw[F];clear s F q
  go_enter Tryz.func82,Tryz.ntmps82
  go_wp2;go_ret2;exact⟨rfl,rfl⟩
 have G:=t 0 (by omega);simp only[Nat.add_zero]at G;have m:Hid (endsZ (d.take 1)=(d[0],d[0])):=by
  show _=_;have e:d.take 1= [d[0]]:=by
   cases d with
   | nil=>simp at s
   | cons z r=>simp
  rw[e];rfl
 generalize d[0]=U at G m;have K:Hid (∀j (h:j<d.length),w.cell? ⟨b,o+j,none⟩=some (.int .i64 d[j])):=t;clear t;generalize J:d.length=L at u s ⊢;have B:Hid (d.length=L):=J;clear J;have O:¬(L:Int)=0:=by omega
 have P:(0:Int)<(L:Int):=by omega
 go_enter Tryz.func82,Tryz.ntmps82
 go_wp2
 go_loop [4,5,6] (fun C I k=> ∃n:Nat,1<=n/\n<=L/\k= .int .i64 n/\C= .int .i64 (endsZ (d.take n)).1/\I= .int .i64 (endsZ (d.take n)).2) (fun _ _ k=>L-(intOf k).toNat)
 case atStart=>exact ⟨1,Nat.le_refl _,by omega,rfl,by rw[m.out],by rw[m.out]⟩
 case round =>
  obtain⟨n,R,T,rfl,rfl,rfl⟩:=hrel;by_cases H:n<L
  ·have i:n<d.length:=by rw[B.out];exact H
   have M:=K.out n i;have I:(n:Int)<(L:Int):=by omega
   have Q:(0:Int)<=(n:Int):=by omega
   have f:Hid (endsZ (d.take (n+1))=(if d[n]<(endsZ (d.take n)).1 then d[n] else (endsZ (d.take n)).1,if (endsZ (d.take n)).2<d[n] then d[n] else (endsZ (d.take n)).2)):=by
    show _=_;rw[<-List.take_append_getElem i,za3k _ _ (fun e=>by
     have:=congrArg List.length e;rw[List.length_take,List.length_nil]at this;have:=B.out;omega)]
   generalize d[n]=z at M f;generalize endsZ (d.take n)=E at f ⊢;obtain⟨C,A⟩:=E;dsimp only at f ⊢;clear i;by_cases l:z<C
   ·by_cases g:A<z
    ·rw[if_pos l,if_pos g]at f;go_wp2;go_round
     case rel=>exact ⟨n+1,by omega,by omega,by go_num,by rw[f.out],by rw[f.out]⟩
     case measure=>simp [intOf];omega
    ·rw[if_pos l,if_neg g]at f;go_wp2;go_round
     case rel=>exact ⟨n+1,by omega,by omega,by go_num,by rw[f.out],by rw[f.out]⟩
     case measure=>simp [intOf];omega
   ·by_cases g:A<z
    ·rw[if_neg l,if_pos g]at f;go_wp2;go_round
     case rel=>exact ⟨n+1,by omega,by omega,by go_num,by rw[f.out],by rw[f.out]⟩
     case measure=>simp [intOf];omega
    ·rw[if_neg l,if_neg g]at f;go_wp2;go_round
     case rel=>exact ⟨n+1,by omega,by omega,by go_num,by rw[f.out],by rw[f.out]⟩
     case measure=>simp [intOf];omega
  ·obtain rfl:n=L:=by omega
   have y:d.take n=d:=List.take_of_length_le (by rw[B.out];exact Nat.le_refl _);rw[y];clear y;go_wp2;go_ret2;exact⟨rfl,rfl⟩
theorem za4j (l:ByteArray) (N:l.size<=100) (v:Value) (c:List Int) (b:ByteArray) (w:World) (s:KeysAt w v c) (K:c.length<=20000) (hb:b.size<=20000) (t: -1073741824<=(endsZ c).1/\(endsZ c).1<=4294967296) (u: -1073741824<=(endsZ c).2/\(endsZ c).2<=4294967296) :
  Calls Tryz.prog 74 #[.string l,v,.string b] w fun e w'=>e= .returned (.string (bytesOf (headL l.data.toList c.length (endsZ c).1 (endsZ c).2 (sumL b.data.toList)++10 :: b.data.toList)))/\BL w w':=by
 have f:=zq5 v c w s (by unfold maxLen;omega);obtain⟨q,M,rfl⟩:=s.form;have y:=zu3 b.data.toList;have m:=fun W=>za4i b W (by unfold maxLen;omega);have d:Hid (((((((((((l++⟨#[32]⟩)++bytesOf (itoa c.length))++⟨#[32]⟩)++bytesOf (itoa (endsZ c).1))++⟨#[32]⟩)++bytesOf (itoa (endsZ c).2))++⟨#[32]⟩)++bytesOf (itoa (sumL b.data.toList)))++⟨#[10]⟩)++b)=bytesOf (headL l.data.toList c.length (endsZ c).1 (endsZ c).2 (sumL b.data.toList)++10 :: b.data.toList)):=by
  show _=_;apply zc1;simp[bytesOf,ByteArray.data_append,headL]
 have g:=fun W=>zi4 c.length W (by omega) (by omega);have i:=fun W=>zi4 (endsZ c).1 W (by omega) (by omega);have j:=fun W=>zi4 (endsZ c).2 W (by omega) (by omega);have k:=fun W=>zi4 (sumL b.data.toList) W (by omega) (by omega);have z:(bytesOf (itoa c.length)).size<=11:=by rw[zf7];exact ze7 _ (by omega) (by omega)
 have A:(bytesOf (itoa (endsZ c).1)).size<=11:=by rw[zf7];exact ze7 _ t.1 t.2
 have B:(bytesOf (itoa (endsZ c).2)).size<=11:=by rw[zf7];exact ze7 _ u.1 u.2
 have C:(bytesOf (itoa (sumL b.data.toList))).size<=11:=by rw[zf7];exact ze7 _ (by omega) (by omega)
 generalize bytesOf (headL l.data.toList c.length (endsZ c).1 (endsZ c).2 (sumL b.data.toList)++10 :: b.data.toList)=T at d ⊢;generalize (endsZ c).1=H at f i d A;generalize (endsZ c).2=I at f j d B;generalize sumL b.data.toList=J at m k d y C;generalize c.length=L at f g d K z ⊢;generalize bytesOf (itoa L)=V at g d z;generalize bytesOf (itoa H)=X at i d A;generalize bytesOf (itoa I)=Y at j d B;generalize bytesOf (itoa J)=Z at k d C;clear s t u
 go_enter Tryz.func74,Tryz.ntmps74
 go_wp2_with fail
 refine f.mono ?_;rintro e O ⟨rfl,rfl⟩;clear f
 go_wp2_with fail
 refine(g _).mono ?_;rintro e P ⟨rfl,n⟩;clear g
 go_wp2_with fail
 refine(i _).mono ?_;rintro e Q ⟨rfl,o⟩;clear i
 go_wp2_with fail
 refine(j _).mono ?_;rintro e R ⟨rfl,p⟩;clear j
 go_wp2_with fail
 refine(m _).mono ?_;rintro e S ⟨rfl,rfl⟩;clear m
 go_wp2_with fail
 refine(k _).mono ?_;rintro e U ⟨rfl,r⟩;clear k;have D:=n.below;have E:=D.trans (o.below.mono D.size);have F:=E.trans (p.below.mono E.size);have G:=F.trans (r.below.mono F.size);clear n o p r;go_wp2;go_ret;exact⟨congrArg (fun x=>Ending.returned (Value.string x)) d.out,G⟩
def CutInvD (d:UInt8) (l:List UInt8) (f n:Nat) (ts:List ByteArray):Prop :=
 f<=n/\ts.length<=f/\(∀c∈(l.drop f).take (n-f),c≠d)/\ts.map (·.data.toList)++pieces d (l.drop f)=pieces d l
theorem zb4r (d:UInt8) (l:List UInt8):CutInvD d l 0 0 []:=⟨Nat.le_refl _,Nat.le_refl _,by simp,by simp⟩
theorem zb4s {d:UInt8} {l:List UInt8} {f n:Nat} {j:List ByteArray} {c:UInt8} (h:CutInvD d l f n j) (r:l[n]? =some c) (m:c≠d):CutInvD d l f (n+1) j:=by
 obtain⟨t,o,p,q⟩:=h;refine⟨by omega,o,fun g hd=>?_,q⟩;obtain⟨k,b⟩:=List.mem_iff_getElem?.1 hd;rw[List.getElem?_take]at b;split at b
 ·rename_i s;rw[List.getElem?_drop]at b;rcases Nat.lt_or_ge k (n-f) with i | i
  ·refine p g (List.mem_iff_getElem?.2 ⟨k,?_⟩);rw[List.getElem?_take,if_pos i,List.getElem?_drop,b]
  ·rw[show f+k=n by omega,r]at b;rw[<-Option.some.inj b];exact m
 ·cases b
theorem zb4t {d:UInt8} {s:ByteArray} {f n:Nat} {k:List ByteArray} (h:CutInvD d s.data.toList f n k) (b:s.data.toList[n]? =some d):CutInvD d s.data.toList (n+1) (n+1) (k++ [s.extract f n]):=by
 obtain⟨m,o,l,j⟩:=h;refine⟨Nat.le_refl _,by simp;omega,by simp,?_⟩;have g:n<s.data.toList.length:=by
  rcases Nat.lt_or_ge n s.data.toList.length with h | h
  ·exact h
  ·rw[List.getElem?_eq_none h]at b;cases b
 have i:s.data.toList.drop f=(s.data.toList.drop f).take (n-f)++d :: s.data.toList.drop (n+1):=by
  have c:=List.take_append_drop (n-f) (s.data.toList.drop f);rw[List.drop_drop,show f+(n-f)=n by omega,List.drop_eq_getElem_cons g]at c;rw[List.getElem?_eq_getElem g]at b;rw[Option.some.inj b]at c;exact c.symm
 rw[i,zg7 d _ _ l]at j;rw[<-j,List.map_append,List.append_assoc];congr 1;simp only[List.map_cons,List.map_nil,List.cons_append,List.nil_append];rw[extract_data]
theorem zb4u {d:UInt8} {s:ByteArray} {f:Nat} {g:List ByteArray} (h:CutInvD d s.data.toList f s.size g):(g++ [s.extract f s.size]).map (·.data.toList)=pieces d s.data.toList:=by
 obtain⟨i,j,b,c⟩:=h;rw[List.take_of_length_le (by rw[List.length_drop,za3];omega)]at b;rw[zo7 d _ b]at c;rw[<-c,List.map_append];simp only[List.map_cons,List.map_nil,extract_to_end]
theorem zb4v (d:UInt8) (s:ByteArray) (w:World) (W:s.size<4294967281) :
  Calls Tryz.prog 159 #[.string s,.int .u8 d.toNat] w fun e w'=> ∃v ts,e= .returned v/\TextsAt w' v ts/\ts.map (·.data.toList)=pieces d s.data.toList/\BL w w':=by
 obtain⟨O,F,G,H,t⟩:=Tryz.strInfo
 go_enter Tryz.func159,Tryz.ntmps159
 go_wp2
 go_loopw [5,6,7] (fun out from' k wr=> ∃(n f:Nat) (ts:List ByteArray),n<=s.size/\k= .int .i64 n/\from'= .int .i64 f/\BL w wr/\CutInvD d s.data.toList f n ts/\wr.ownsRow w.heap.size 9 1 out ts.length (ts.map Value.string)) (fun _ _ k _=>s.size-(intOf k).toNat)
 case atStart=>exact ⟨0,0, [],by omega,rfl,rfl,Below.refl _ _,zb4r _ _,by simp;exact World.ownsRow_nil _ _ _ _⟩
 case round =>
  obtain⟨n,f,ts,V,rfl,rfl,i,m,y⟩:=hrel;have o:Hid (wr.ownsRow w.heap.size 9 1 u5 ts.length (ts.map Value.string)):=y;have I:Hid (CutInvD d s.data.toList f n ts):=m;have T:f<=n:=m.1;have E:ts.length<=f:=m.2.1;have B:Hid (ts.length<=f):=E;clear y m E;by_cases K:n<s.size
  ·have U:(n:Int)<(s.size:Int):=by omega
   have l:=zc4 s n K;by_cases C:s[n].toNat=d.toNat
   ·have L:(s[n].toNat:Int)=d.toNat:=by omega
    have R:Hid (s.data.toList[n]? =some d):=by
     rw[l];exact congrArg some (UInt8.toNat_inj.1 C)
    clear l C;have p:BL wr (wr.alloc (.cells #[.string (s.extract f n)] 9)):=alB _ _;have g:BL w (wr.alloc (.cells #[.string (s.extract f n)] 9)):=i.alloc i.size _
    go_wp2_with (at_builtin;refine wpList_append_own _ rfl _ _ 39 rfl w.heap.size 9 O (.string ⟨#[]⟩) 1 16 Tryz.underlying39 F G H t rfl (by decide) u5 ts.length (ts.map Value.string) rfl ?qc0 ⟨wr.heap.size,0,none⟩ 1 1 [.string (s.extract f n)] rfl ?qc1 ?qc2 ?qc3 ?qc4 ?qc5 ?qc6 ?_)
    case qc0=>exact za2 o.out p
    case qc1=>rfl
    case qc2=>exact zb6 _ _ _
    case qc3=>intro u z;simp at z;subst z;rfl
    case qc4=>have:=B.out;unfold maxLen;omega
    case qc5=>have:=B.out;omega
    case qc6=>first | exact g.size | (have:=i.size;omega)
    intro D A b c j;have q:BL w A:=g.grown c g.size (fun k hk=>by
     rcases o.out.2 with⟨e,_⟩|⟨S,J,P,e,Q,_⟩
     ·rw[e]at hk;simp[Value.ownBlock]at hk
     ·rw[e]at hk;simp[Value.ownBlock]at hk;omega)
    have r:Hid (A.ownsRow w.heap.size 9 1 D (ts.length+1) (ts.map Value.string++ [.string (s.extract f n)])):=b;clear b j c;go_wp2;go_roundw
    case rel=>exact ⟨n+1,n+1,ts++ [s.extract f n],by omega,by go_num,by go_num,q,zb4t I.out R.out,by rw[List.length_append,List.map_append];exact r.out⟩
    case measure=>simp [intOf];omega
   ·have L:¬(s[n].toNat:Int)=d.toNat:=by omega
    have M:Hid (CutInvD d s.data.toList f (n+1) ts):=zb4s I.out l (fun e=>C (by rw[e]));clear l C;go_wp2;go_roundw
    case rel=>exact ⟨n+1,f,ts,by omega,by go_num,by go_num,i,M.out,o.out⟩
    case measure=>simp [intOf];omega
  ·have N:n=s.size:=by omega
   subst N;have p:BL wr (wr.alloc (.cells #[.string (s.extract f s.size)] 9)):=alB _ _;have g:BL w (wr.alloc (.cells #[.string (s.extract f s.size)] 9)):=i.alloc i.size _
   go_wp2_with (at_builtin;refine wpList_append_own _ rfl _ _ 39 rfl w.heap.size 9 O (.string ⟨#[]⟩) 1 16 Tryz.underlying39 F G H t rfl (by decide) u5 ts.length (ts.map Value.string) rfl ?qc0 ⟨wr.heap.size,0,none⟩ 1 1 [.string (s.extract f s.size)] rfl ?qc1 ?qc2 ?qc3 ?qc4 ?qc5 ?qc6 ?_)
   case qc0=>exact za2 o.out p
   case qc1=>rfl
   case qc2=>exact zb6 _ _ _
   case qc3=>intro u z;simp at z;subst z;rfl
   case qc4=>have:=B.out;unfold maxLen;omega
   case qc5=>have:=B.out;omega
   case qc6=>first | exact g.size | (have:=i.size;omega)
   intro D A b c j;have q:BL w A:=g.grown c g.size (fun k hk=>by
    rcases o.out.2 with⟨e,_⟩|⟨S,J,P,e,Q,_⟩
    ·rw[e]at hk;simp[Value.ownBlock]at hk
    ·rw[e]at hk;simp[Value.ownBlock]at hk;omega)
   have r:Hid (A.ownsRow w.heap.size 9 1 D (ts.length+1) (ts.map Value.string++ [.string (s.extract f s.size)])):=b;clear b j c;go_wp2;go_ret;exact⟨D,ts++ [s.extract f s.size],rfl,za4b (base:=w.heap.size) (by simp) (by rw[List.length_append,List.map_append];exact r.out),zb4u I.out,q⟩
def NumsPost (w:World) (e:Ending) (ts:List ByteArray):Prop :=
 (∃(zs:List Int) (v:Value),zs.length=ts.length/\(∀(j:Nat) (t:ByteArray),ts[j]? =some t->numO t.data.toList=zs[j]?)/\e= .returned (.tuple #[v,.bool true])/\KeysAt w v zs) \/
 (∃(j:Nat) (t:ByteArray),ts[j]? =some t/\numO t.data.toList=none/\e= .returned (.tuple #[.slice none 0 0,.bool false]))
def NumsPostN (B:Nat) (w:World) (e:Ending) (ts:List ByteArray):Prop :=
 (∃(zs:List Int) (v:Value),zs.length=ts.length/\(∀(j:Nat) (t:ByteArray),ts[j]? =some t->numO t.data.toList=zs[j]?)/\e= .returned (.tuple #[v,.bool true])/\KeysAt w v zs/\∀k,v.ownBlock=some k->B<=k) \/
 (∃(j:Nat) (t:ByteArray),ts[j]? =some t/\numO t.data.toList=none/\e= .returned (.tuple #[.slice none 0 0,.bool false]))
theorem NumsPostN.weak {B:Nat} {w:World} {e:Ending} {b:List ByteArray} (h:NumsPostN B w e b):NumsPost w e b:=by
 rcases h with⟨c,g,d,f,i,j,_⟩ | h
 ·exact Or.inl ⟨c,g,d,f,i,j⟩
 ·exact Or.inr h
theorem zb4w (b o U:Nat) (c:List ByteArray) (w:World) (V:∀j (h:j<c.length),w.cell? ⟨b,o+j,none⟩=some (.string c[j])) (X:∀t∈c,t.size<=maxLen) (hl:c.length<=20000) :
  Calls Tryz.prog 160 #[.slice (some ⟨b,o,none⟩) c.length U] w fun e w'=>NumsPostN w.heap.size w' e c/\BL w w':=by
 obtain⟨i0,P,Q,R,F⟩:=Tryz.numInfo;have Y:Hid (∀j (h:j<c.length),w.cell? ⟨b,o+j,none⟩=some (.string c[j])):=V;have Z:Hid (∀t∈c,t.size<=maxLen):=X;obtain⟨L,G⟩:∃L,c.length=L:=⟨_,rfl⟩;have C:Hid (c.length=L):=G;rw[G]at hl ⊢;clear G V X
 go_enter Tryz.func160,Tryz.ntmps160
 go_wp2
 go_loopw [4,5] (fun out k wr=> ∃(n:Nat) (g:List Int),n<=L/\k= .int .i64 n/\BL w wr/\g.length=n/\(∀j t,j<n->c[j]? =some t->numO t.data.toList=g[j]?)/\wr.ownsRow w.heap.size 3 1 out n (g.map encZ)) (fun _ k _=>L-(intOf k).toNat)
 case atStart=>exact ⟨0, [],by omega,rfl,Below.refl _ _,rfl,fun j t h=>absurd h (Nat.not_lt_zero _),by simp;exact World.ownsRow_nil _ _ _ _⟩
 case round =>
  obtain⟨n,g,hn,rfl,q,A,B,s⟩:=hrel;have y:Hid (wr.ownsRow w.heap.size 3 1 u4 n (g.map encZ)):=s;have i:Hid (g.length=n):=A;have z:Hid (∀j t,j<n->c[j]? =some t->numO t.data.toList=g[j]?):=B;clear s A B;by_cases J:n<L
  ·have l:n<c.length:=by rw[C.out];exact J
   have c1:=za0 q (Y.out n l);have D:Hid (c[n]? =some c[n]):=List.getElem?_eq_getElem l;have d:=fun W=>zl2 c[n] W (Z.out _ (List.getElem_mem _));generalize c[n]=t at c1 D d;unfold numR at d;have hi:(n:Int)<(L:Int):=by omega
   have aa:(0:Int)<=(n:Int):=by omega
   clear l
   cases f:numO t.data.toList with
   | none =>
    rw[f]at d;dsimp only at d;have E:Hid (numO t.data.toList=none):=f;clear f
    go_wp2_with (go_at_call 124;refine(d _).mono ?_;rintro e w1 ⟨rfl,v⟩;rw[v];clear v)
    go_ret2;exact⟨Or.inr ⟨n,t,D.out,E.out,rfl⟩,q⟩
   | some x =>
    rw[f]at d;dsimp only at d;have E:Hid (numO t.data.toList=some x):=f;clear f;have K:BL wr (wr.alloc (.cells #[.int .i64 x] 3)):=alB _ _;have r:BL w (wr.alloc (.cells #[.int .i64 x] 3)):=q.alloc q.size _
    go_wp2_with (first
     | (go_at_call 124;refine(d _).mono ?_;rintro e w1 ⟨rfl,v⟩;rw[v];clear v)
     | (at_builtin;refine wpList_append_own _ rfl _ _ 69 rfl w.heap.size 3 i0 (.int .i64 0) 1 8 Tryz.underlying69 P Q R F rfl (by decide) u4 n (g.map encZ) rfl ?qc0 ⟨wr.heap.size,0,none⟩ 1 1 [.int .i64 x] rfl ?qc1 ?qc2 ?qc3 ?qc4 ?qc5 ?qc6 ?_))
    case qc0=>exact za2 y.out K
    case qc1=>rfl
    case qc2=>exact zb6 _ _ _
    case qc3=>intro u S;simp at S;subst S;rfl
    case qc4=>unfold maxLen;omega
    case qc5=>omega
    case qc6=>first | exact r.size | (have:=q.size;omega)
    intro v' T m p H;have M:BL w T:=r.grown p r.size (fun k f=>by
     rcases y.out.2 with⟨e,_⟩|⟨g',ab,ac,e,ad,_⟩
     ·rw[e]at f;simp[Value.ownBlock]at f
     ·rw[e]at f;simp[Value.ownBlock]at f;omega)
    have N:Hid (T.ownsRow w.heap.size 3 1 v' (n+1) (g.map encZ++ [.int .i64 x])):=m;clear m H p;go_wp2;go_roundw
    case rel =>
     refine⟨n+1,g++ [x],by omega,by go_num,M,by rw[List.length_append,i.out];rfl,fun j t' hj ht'=>?_,by rw[List.map_append];exact N.out⟩;rcases Nat.lt_or_ge j n with I | I
     ·rw[z.out j t' I ht',List.getElem?_append_left (by rw[i.out];exact I)]
     ·obtain rfl:j=n:=by omega
      rw[D.out]at ht';rw[<-Option.some.inj ht',E.out,List.getElem?_append_right (by rw[i.out];exact Nat.le_refl _),i.out,Nat.sub_self];rfl
    case measure=>simp [intOf];omega
  ·obtain rfl:n=L:=by omega
   have O:Hid (KeysAt wr u4 g):=zx1 (base:=w.heap.size) (by rw[i.out];exact y.out);go_wp2;go_ret2;exact⟨Or.inl ⟨g,u4,by rw[i.out,C.out],fun j t ht=>z.out j t (by
    rw[<-C.out];rcases Nat.lt_or_ge j c.length with h | h
    ·exact h
    ·rw[List.getElem?_eq_none h]at ht;cases ht) ht,rfl,O.out,fun k f=>(y.out.lt k f).1⟩,q⟩
theorem zb4x (b o d:Nat) (c:List ByteArray) (w:World) (f:∀j (h:j<c.length),w.cell? ⟨b,o+j,none⟩=some (.string c[j])) (g:∀t∈c,t.size<=maxLen) (i:c.length<=20000) :
  Calls Tryz.prog 160 #[.slice (some ⟨b,o,none⟩) c.length d] w fun e w'=>NumsPost w' e c/\BL w w' :=
 (zb4w b o d c w f g i).mono fun _ _ ⟨h1,h2⟩=>⟨h1.weak,h2⟩
end Go.Proofs.YtgckdomafbnmkaaGreatDoor
