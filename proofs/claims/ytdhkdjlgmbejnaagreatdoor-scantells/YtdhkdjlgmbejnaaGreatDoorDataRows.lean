/- By an AI agent. -/
import Derived.Test.YtdhkdjlgmbejnaaGreatDoorDataLoop
namespace Go.Proofs.YtdhkdjlgmbejnaaGreatDoor
open Go.RowKit Go.Extern.Stop Go.Stop Go.Extern Go.Sort Go.Shelf Go.Lib
abbrev Hd:=Int×Int×Int
def encH (x:Hd):List Value:= [.int .i64 x.1,.int .i64 x.2.1,.int .i64 x.2.2]
theorem eqHead:EqlAt Tryz.prog 174 (fun x:Hd=>.agg (encH x).toArray) (fun x y=>decide (x=y)):=by
 refine⟨fun x y w=>?_,GuardAt.agg _ (by kernel_rfl)⟩
 have u3:=Tryz.underlying3
 have a3:=Tryz.isAgg3
 have z3:=Tryz.sizeOf3
 have hS:Tryz.prog.underlying 174=some (.struct (Tryz.prog.fieldsOf 174)):=by kernel_rfl
 have hp:Tryz.prog.stoodInHeld 174=false:=by kernel_rfl
 obtain⟨x0,x1,x2⟩:=x
 obtain⟨y0,y1,y2⟩:=y
 simp only[encH]
 rw[run_eql_struct,show (10000:Nat)=9999+1 from rfl,run_equalIn_agg w 9999 174 _ _ hS hp]
 simp only[Program.fieldsOf,Tryz.underlying174]
 go_simp
 by_cases h0:x0=y0<;>by_cases h1:x1=y1<;>by_cases h2:x2=y2<;>simp [h0,h1,h2]
theorem neqHead:NeqAt Tryz.prog 174 (fun x:Hd=>.agg (encH x).toArray) (fun x y=>decide (x=y)):=by
 refine⟨fun x y w=>?_,eqHead.2⟩
 have h:=eqHead.1 x y w
 simp only[encH]at h ⊢
 rw[run_eql_struct]at h
 rw[run_neq_struct]
 generalize Sem.run Tryz.prog (Op.equalIn 10000 174 _ _) w=r at h ⊢
 cases r with
 | ok b w' =>
   simp only[Result.andThen,Result.ok.injEq,Value.bool.injEq]at h ⊢
   exact⟨by rw[h.1],h.2⟩
 | halt z w'=>simp [Result.andThen]at h
def AllPost {β:Type} (B:Nat) (w:World) (a:Nat→Addr) (Inv:Nat→World→List β→Prop) (D:List β×Nat×Option Nat) (e:Ending) (w':World):Prop :=
 Below B w w'∧((D.2.1=0∧e= .returned .nilIface∧∃Q,Inv Q w' D.1) ∨
   (D.2.1≠0∧D.1= []∧D.2.2=none∧e= .returned (errV a D.2.1)) ∨
   (D.2.1≠0∧D.1= []∧∃at_,D.2.2=some at_∧∃fb,e= .returned (.iface 92 (.pointer (some ⟨fb,0,none⟩)))∧w'.cell? ⟨fb,0,none⟩=some (.int .i64 at_)∧w'.cell? ⟨fb,1,none⟩=some (errV a D.2.1)))
set_option maxRecDepth 100000 in
set_option maxHeartbeats 8000000 in
theorem readLines_any {β:Type} (k:FK β) (kb s:ByteArray) (hkb:kb.data.toList=k.word) (w:World) (a:Nat→Addr) (En:World→Prop) (F bl B:Nat) (Inv:Nat→World→List β→Prop) (hB:B≤w.heap.size) (hlow1:∀W',Below B w W'→En W')
   (T:∀Q,Taker k a En F bl B w.heap.size Q (Inv Q)) (hI:∀Q W',Below w.heap.size w W'→Q≤W'.heap.size→Inv Q W' []) (hs:s.size≤maxLen) :
   Calls Tryz.prog 209 #[.string kb,.string s,.func (.func F) #[] #[.pointer (some ⟨bl,0,none⟩)]] w fun e w'=>AllPost B w a Inv (readG k s.data.toList) e w':=by
 have hlow:∀W',Below B w W'→EnvD0 W' a:=fun W' hW=>(T 0).env (hlow1 W' hW)
 unfold maxLen at hs
 have hszl:=size_list s
 have hal:Below w.heap.size w (w.alloc (.cells #[.func (.func F) #[] #[.pointer (some ⟨bl,0,none⟩)]] 180)):=(Below.refl _ _).alloc (Nat.le_refl _) _
 have hFun:FunAt (w.alloc (.cells #[.func (.func F) #[] #[.pointer (some ⟨bl,0,none⟩)]] 180)) w.heap.size F bl:=heap_alloc_new _ _
 by_cases hbig:20000<s.size
 · have HD:Hid (readG k s.data.toList=([],2,none)):=by show _=_;unfold readG;rw[if_pos (by omega)]
   have hb':(20000:Int)<(s.size:Int):=by omega
   have hbd:=(hlow _ (hal.mono hB)).env.bound
   clear hszl
   go_enter Tryz.func209,Tryz.ntmps209
   go_wp2
   go_ret
   refine⟨hal.mono hB,?_⟩
   rw[HD.out]
   exact Or.inr (Or.inl ⟨by simp,rfl,rfl,rfl⟩)
 · have hb' : ¬ (20000:Int)<(s.size:Int):=by omega
   have hnb:¬20000<s.data.toList.length:=by omega
   have hE0:=hlow _ (hal.mono hB)
   obtain⟨mx,hmx⟩:=hE0.env.maxl
   have hcut:=Tryz.strings_Cut s ⟨#[10]⟩ mx _ (by omega) hmx
   dsimp only at hcut
   rcases cut_cases 10 s.data.toList with⟨hno,hc⟩|⟨la,lb,hl,hno,hc⟩
   · have HD:Hid (readG k s.data.toList=([],1,none)):=by show _=_;unfold readG;rw[if_neg hnb,hc];rfl
     rw[hc]at hcut
     dsimp only at hcut
     have eA:(⟨s.data.toList.toArray⟩:ByteArray)=bytesOf s.data.toList:=rfl
     rw[eA]at hcut
     have hrh:=fun W (hW:Env0 W a)=>readHead_any kb (bytesOf s.data.toList) W a hW (by rw[bytes_len];omega)
     generalize bytesOf s.data.toList=lA at hcut hrh
     generalize headR kb.data.toList lA.data.toList=H at hrh
     obtain⟨⟨z0,z1,z2⟩,z3,okb⟩:=H
     dsimp only at hrh
     clear hc hno eA hnb hszl hE0
     go_enter Tryz.func209,Tryz.ntmps209
     go_wp2_with fail
     generalize w.alloc (.cells #[.func (.func F) #[] #[.pointer (some ⟨bl,0,none⟩)]] 180)=W0 at hal hFun hmx hcut ⊢
     refine hcut.mono ?_
     rintro e w1 ⟨rfl,q,rfl⟩
     clear hcut
     have hb1:Below w.heap.size w (W0.drewN q):=below_drewN hal q
     have hrh1:=hrh _ (hlow _ (hb1.mono hB)).env
     clear hrh hmx hFun hal
     generalize W0.drewN q=W1 at hb1 hrh1 ⊢
     go_wp2_with fail
     refine hrh1.mono ?_
     rintro e w2 ⟨rfl,hb2⟩
     clear hrh1
     have hB2:Below w.heap.size w w2:=hb1.trans (hb2.mono hb1.size)
     have hB3:Below w.heap.size w (w2.alloc (.cells #[.int .i64 z0,.int .i64 z1,.int .i64 z2] 174)):=hB2.alloc hB2.size _
     have ht:=(hlow _ (hB3.mono hB)).env.text
     go_wp2
     go_ret
     refine⟨hB3.mono hB,?_⟩
     rw[HD.out]
     exact Or.inr (Or.inl ⟨by simp,rfl,rfl,rfl⟩)
   · have hlen : la.length+lb.length+1=s.size:=by rw[←size_list,hl];simp;omega
     rw[hc]at hcut
     dsimp only at hcut
     have eA:(⟨la.toArray⟩:ByteArray)=bytesOf la:=rfl
     have eB:(⟨lb.toArray⟩:ByteArray)=bytesOf lb:=rfl
     rw[eA,eB]at hcut
     have eAd:(bytesOf la).data.toList=la:=by simp[bytesOf]
     have eBd:(bytesOf lb).data.toList=lb:=by simp[bytesOf]
     have hrh:=fun W (hW:Env0 W a)=>readHead_any kb (bytesOf la) W a hW (by rw[bytes_len];omega)
     rw[eAd,hkb]at hrh
     have hsum:=fun W=>sum_any (bytesOf lb) W (by rw[bytes_len];unfold maxLen;omega)
     rw[eBd]at hsum
     unfold headR at hrh
     cases hho:headO k.word la with
     | none =>
       have HD:Hid (readG k s.data.toList=([],1,none)):=by show _=_;unfold readG;rw[if_neg hnb,hc];simp only[hho];rfl
       rw[hho]at hrh
       dsimp only at hrh
       clear hc hno eA eB eAd eBd hnb hszl hsum hho hlen hl hE0
       generalize bytesOf la=lA at hcut hrh
       generalize bytesOf lb=lB at hcut
       go_enter Tryz.func209,Tryz.ntmps209
       go_wp2_with fail
       generalize w.alloc (.cells #[.func (.func F) #[] #[.pointer (some ⟨bl,0,none⟩)]] 180)=W0 at hal hFun hmx hcut ⊢
       refine hcut.mono ?_
       rintro e w1 ⟨rfl,q,rfl⟩
       clear hcut
       have hb1:Below w.heap.size w (W0.drewN q):=below_drewN hal q
       have hrh1:=hrh _ (hlow _ (hb1.mono hB)).env
       clear hrh hmx hFun hal
       generalize W0.drewN q=W1 at hb1 hrh1 ⊢
       go_wp2_with fail
       refine hrh1.mono ?_
       rintro e w2 ⟨rfl,hb2⟩
       clear hrh1
       have hB2:Below w.heap.size w w2:=hb1.trans (hb2.mono hb1.size)
       have hB3:Below w.heap.size w (w2.alloc (.cells #[.int .i64 0,.int .i64 0,.int .i64 0] 174)):=hB2.alloc hB2.size _
       have ht:=(hlow _ (hB3.mono hB)).env.text
       go_wp2
       go_ret
       refine⟨hB3.mono hB,?_⟩
       rw[HD.out]
       exact Or.inr (Or.inl ⟨by simp,rfl,rfl,rfl⟩)
     | some hd =>
       obtain⟨z0,z1,z2,z3⟩:=hd
       rw[hho]at hrh
       dsimp only at hrh
       have hD:readG k s.data.toList=if z3≠sumL lb then ([],10,none) else endG k z0 z1 z2 (rowsG k (pieces 10 lb) 0 []):=by
         unfold readG;rw[if_neg hnb,hc];simp only[hho];rfl
       have HD:Hid (readG k s.data.toList=if z3≠sumL lb then ([],10,none) else endG k z0 z1 z2 (rowsG k (pieces 10 lb) 0 [])):=hD
       have hsl:=sumL_lt lb
       have hlb2:(bytesOf lb).size≤20000:=by rw[bytes_len];omega
       have HBD:Hid (rowsG k (pieces 10 (bytesOf lb).data.toList) 0 []=rowsG k (pieces 10 lb) 0 []):=by show _=_;rw[eBd]
       generalize sumL lb=S at hsum HD hsl
       generalize rowsG k (pieces 10 lb) 0 []=R at HD HBD
       clear hD hc hno eA eB eAd eBd hnb hszl hho hlen hl hE0
       generalize bytesOf la=lA at hcut hrh
       generalize bytesOf lb=lB at hcut hsum hlb2 HBD
       have HTT:Hid (∀Q,Taker k a En F bl B w.heap.size Q (Inv Q)):=T
       have HII:Hid (∀Q W',Below w.heap.size w W'→Q≤W'.heap.size→Inv Q W' []):=hI
       clear T hI
       go_enter Tryz.func209,Tryz.ntmps209
       go_wp2_with fail
       generalize w.alloc (.cells #[.func (.func F) #[] #[.pointer (some ⟨bl,0,none⟩)]] 180)=W0 at hal hFun hmx hcut ⊢
       refine hcut.mono ?_
       rintro e w1 ⟨rfl,q,rfl⟩
       clear hcut
       have hbq:Below W0.heap.size W0 (W0.drewN q):=below_drewN (Below.refl _ _) q
       have hb1:Below w.heap.size w (W0.drewN q):=below_drewN hal q
       have hFun1:=hFun.below hbq
       have hrh1:=hrh _ (hlow _ (hb1.mono hB)).env
       clear hrh hmx hFun hal hbq
       generalize W0.drewN q=W1 at hb1 hrh1 hFun1 ⊢
       go_wp2_with fail
       refine hrh1.mono ?_
       rintro e w2 ⟨rfl,hb2⟩
       clear hrh1
       have hB2:Below w.heap.size w w2:=hb1.trans (hb2.mono hb1.size)
       have hFun2:=hFun1.below hb2
       have hal3:Below w2.heap.size w2 (w2.alloc (.cells #[.int .i64 z0,.int .i64 z1,.int .i64 z2] 174)):=(Below.refl _ _).alloc (Nat.le_refl _) _
       have hB3:Below w.heap.size w (w2.alloc (.cells #[.int .i64 z0,.int .i64 z1,.int .i64 z2] 174)):=hB2.alloc hB2.size _
       have hFun3:=hFun2.below hal3
       have hSd:(w2.alloc (.cells #[.int .i64 z0,.int .i64 z1,.int .i64 z2] 174)).heap[w2.heap.size]? =some (.cells #[.int .i64 z0,.int .i64 z1,.int .i64 z2] 174 (0,0)):=heap_alloc_new _ _
       have hsum3:=hsum (w2.alloc (.cells #[.int .i64 z0,.int .i64 z1,.int .i64 z2] 174))
       have hsd1:w.heap.size≤w2.heap.size:=hB2.size
       have hsd2:w.heap.size≠w2.heap.size:=by have:=lt_of_block hFun2;omega
       clear hsum hFun1 hFun2 hal3
       go_wp2_with fail
       generalize hsd:w2.heap.size=sd at hSd hsd1 hsd2 ⊢
       generalize w2.alloc (.cells #[.int .i64 z0,.int .i64 z1,.int .i64 z2] 174)=W3 at hB3 hsum3 hFun3 hSd ⊢
       clear hsd hB2 hb2 hb1
       refine hsum3.mono ?_
       rintro e w4 ⟨rfl,hb4⟩
       clear hsum3
       have hB4:Below w.heap.size w w4:=hB3.trans (hb4.mono hB3.size)
       have hFun4:=hFun3.below hb4
       have hSd4:w4.heap[sd]? =some (.cells #[.int .i64 z0,.int .i64 z1,.int .i64 z2] 174 (0,0)):=(hb4.block _ (lt_of_block hSd)).trans hSd
       have hw0:IntKind.i64.wrap (S:Int)=(S:Int):=IntWalk.i64_in _ (by omega)
       have hsd4:sd<w4.heap.size:=lt_of_block hSd4
       clear hFun3 hSd hB3 hb4
       by_cases hzs:z3=(S:Int)
       · have HD2:Hid (readG k s.data.toList=endG k z0 z1 z2 R):=by show _=_;rw[HD.out,if_neg (by simpa using hzs)]
         clear HD
         subst hzs
         have hal5:Below w4.heap.size w4 (w4.alloc (.cells #[.int .i64 0,.int .i64 0,.int .i64 0] 174)):=(Below.refl _ _).alloc (Nat.le_refl _) _
         have hB5:Below w.heap.size w (w4.alloc (.cells #[.int .i64 0,.int .i64 0,.int .i64 0] 174)):=hB4.alloc hB4.size _
         have hH5:HeadAt (w4.alloc (.cells #[.int .i64 0,.int .i64 0,.int .i64 0] 174)) w4.heap.size 0 (0,0):=heap_alloc_new _ _
         have hFun5:=hFun4.below hal5
         have hSd5:(w4.alloc (.cells #[.int .i64 0,.int .i64 0,.int .i64 0] 174)).heap[sd]? =some (.cells #[.int .i64 z0,.int .i64 z1,.int .i64 z2] 174 (0,0)):=(hal5.block _ (lt_of_block hSd4)).trans hSd4
         have hP4:w.heap.size<w4.heap.size:=lt_of_block hFun4
         have hel:=eachLine_any (HTT.out (w4.heap.size+1)) w.heap.size w4.heap.size lB _ (fun W' hW=>hlow1 W' ((hB5.mono hB).trans hW)) (HII.out (w4.heap.size+1) _ hB5 (by simp)) (by simp) (Nat.le_trans hB hB5.size) hFun5 hH5 ⟨Nat.le_refl _,by omega⟩ ⟨by omega,by omega⟩ (by omega) hlb2
         rw[HBD.out]at hel
         clear hFun4 hFun5 hH5 hal5 hSd4
         go_wp2_with fail
         generalize hg4:w4.heap.size=g at hel hsd4 hP4 ⊢
         generalize w4.alloc (.cells #[.int .i64 0,.int .i64 0,.int .i64 0] 174)=W5 at hB5 hSd5 hel ⊢
         clear hg4 hB4
         refine hel.mono ?_
         rintro e w6 ⟨hb6,hfr,hres⟩
         clear hel
         have hB6:Below B w w6:=(hB5.mono hB).trans hb6
         have hSd6:w6.heap[sd]? =some (.cells #[.int .i64 z0,.int .i64 z1,.int .i64 z2] 174 (0,0)):=(hfr sd hsd1 (by omega) (by omega)).trans hSd5
         clear hfr hSd5 hB5 hb6
         rcases hres with⟨h0,rfl,hI6,hH6⟩|⟨h0,fb,rfl,c0,c1⟩
         · have HR0:Hid (R.2.1=0):=h0
           have HI6:Hid (∃Q,Inv Q w6 R.1):=⟨_,hI6⟩
           have x0:w6.cell? ⟨sd,0,none⟩=some (.int .i64 z0):=by rw[cell_of_row _ _ _ _ _ _ hSd6];rfl
           have x1:w6.cell? ⟨sd,1,none⟩=some (.int .i64 z1):=by rw[cell_of_row _ _ _ _ _ _ hSd6];rfl
           have x2:w6.cell? ⟨sd,2,none⟩=some (.int .i64 z2):=by rw[cell_of_row _ _ _ _ _ _ hSd6];rfl
           obtain⟨y0,y1,y2,_⟩:=hH6.cells
           have hE6:=hlow _ hB6
           by_cases h40:40<R.1.length
           · have h40':(40:Int)<(R.1.length:Int):=by omega
             have HDE:Hid (readG k s.data.toList=([],8,none)):=by
               show _=_
               rw[HD2.out];unfold endG;rw[if_neg (by simpa using HR0.out),if_pos h40]
             have hfu:=hE6.full
             clear h0 hI6 hH6 x0 x1 x2 y1 y2 hE6 h40 HI6
             generalize R.1.length=LL at h40' y0
             go_wp2
             go_ret
             refine⟨hB6,?_⟩
             rw[HDE.out]
             exact Or.inr (Or.inl ⟨by simp,rfl,rfl,rfl⟩)
           · have h40':¬(40:Int)<(R.1.length:Int):=by omega
             have HDE:Hid (readG k s.data.toList=if z0=(R.1.length:Int)∧z1=(endsZ (keysG k R.1)).1∧z2=(endsZ (keysG k R.1)).2 then (R.1,0,none) else ([],3,none)):=by
               show _=_
               rw[HD2.out];unfold endG;rw[if_neg (by simpa using HR0.out),if_neg h40]
             have hneq:=neqHead.1 ((R.1.length:Int),(endsZ (keysG k R.1)).1,(endsZ (keysG k R.1)).2) (z0,z1,z2)
             simp only[encH]at hneq
             have hgd':∀(op:BinOp) (a b:Operand) (w:World),Sem.run Tryz.prog (eqGuard op 174 a b (.agg #[.int .i64 (R.1.length:Int),.int .i64 (endsZ (keysG k R.1)).1,.int .i64 (endsZ (keysG k R.1)).2]) (.agg #[.int .i64 z0,.int .i64 z1,.int .i64 z2])) w= .ok () w:=fun op a b w=>neqHead.2 op a b ((R.1.length:Int),(endsZ (keysG k R.1)).1,(endsZ (keysG k R.1)).2) (z0,z1,z2) w
             have hqe:decide ((((R.1.length:Int),(endsZ (keysG k R.1)).1,(endsZ (keysG k R.1)).2):Hd)=(z0,z1,z2))=decide (z0=(R.1.length:Int)∧z1=(endsZ (keysG k R.1)).1∧z2=(endsZ (keysG k R.1)).2):=by
               rw[decide_eq_decide];simp only[Prod.mk.injEq]
               exact⟨fun ⟨h1,h2,h3⟩=>⟨h1.symm,h2.symm,h3.symm⟩,fun ⟨h1,h2,h3⟩=>⟨h1.symm,h2.symm,h3.symm⟩⟩
             rw[hqe]at hneq
             obtain⟨bq,hbq⟩:∃bq,decide (z0=(R.1.length:Int)∧z1=(endsZ (keysG k R.1)).1∧z2=(endsZ (keysG k R.1)).2)=bq:=⟨_,rfl⟩
             have HBQ:Hid (decide (z0=(R.1.length:Int)∧z1=(endsZ (keysG k R.1)).1∧z2=(endsZ (keysG k R.1)).2)=bq):=hbq
             rw[hbq]at hneq
             clear hqe hbq h0 hI6 hH6
             generalize hEE:endsZ (keysG k R.1)=E at hneq hgd' y1 y2
             have HEE:Hid (endsZ (keysG k R.1)=E):=hEE
             clear hEE
             obtain⟨e1,e2⟩:=E
             dsimp only at hneq hgd' y1 y2
             obtain⟨LL,hLL⟩:∃LL,R.1.length=LL:=⟨_,rfl⟩
             have HLL:Hid (R.1.length=LL):=hLL
             rw[hLL]at hneq hgd' h40' y0
             clear hLL h40
             have hsh:=hE6.shape
             clear hE6
             cases bq with
             | true =>
               have HFIN:Hid (readG k s.data.toList=(R.1,0,none)):=by
                 show _=_
                 rw[HDE.out,if_pos (of_decide_eq_true HBQ.out)]
               go_wp2
               go_ret
               refine⟨hB6,?_⟩
               rw[HFIN.out]
               exact Or.inl ⟨rfl,rfl,HI6.out⟩
             | false =>
               have HFIN:Hid (readG k s.data.toList=([],3,none)):=by
                 show _=_
                 rw[HDE.out,if_neg (of_decide_eq_false HBQ.out)]
               go_wp2
               go_ret
               refine⟨hB6,?_⟩
               rw[HFIN.out]
               exact Or.inr (Or.inl ⟨by simp,rfl,rfl,rfl⟩)
         · have HR0:Hid (R.2.1≠0):=h0
           have C0:Hid (w6.cell? ⟨fb,0,none⟩=some (.int .i64 R.2.2)):=c0
           have C1:Hid (w6.cell? ⟨fb,1,none⟩=some (errV a R.2.1)):=c1
           have HDE:Hid (readG k s.data.toList=([],R.2.1,some R.2.2)):=by
             show _=_
             rw[HD2.out];unfold endG;rw[if_pos HR0.out]
           clear h0 c0 c1 hSd6
           go_wp2
           go_ret
           refine⟨hB6,?_⟩
           rw[HDE.out]
           exact Or.inr (Or.inr ⟨HR0.out,rfl,R.2.2,rfl,fb,rfl,C0.out,C1.out⟩)
       · have HDE:Hid (readG k s.data.toList=([],10,none)):=by
           show _=_
           rw[HD.out,if_pos hzs]
         have hsu:=(hlow _ (hB4.mono hB)).sum
         clear hFun4 hSd4
         go_wp2
         go_ret
         refine⟨hB4.mono hB,?_⟩
         rw[HDE.out]
         exact Or.inr (Or.inl ⟨by simp,rfl,rfl,rfl⟩)
structure BoxR (W:World) (B bl:Nat) (v:Value) (acc:List Rw):Prop where
 box:W.heap[bl]? =some (.cells #[v] 33 (0,0))
 own:W.ownsRow B 54 3 v acc.length (flatR acc)
 off:v.ownBlock≠some bl
 low:B≤bl
structure InvR (B bl P Q:Nat) (W:World) (acc:List Rw):Prop where
 ex:∃v,BoxR W B bl v acc∧∀j,P≤j→j<Q→v.ownBlock≠some j
 lt:bl<P
 hq:Q≤W.heap.size
theorem BoxR.below {W W':World} {B bl:Nat} {v:Value} {acc:List Rw} (h:BoxR W B bl v acc) (hb:Below W.heap.size W W'):BoxR W' B bl v acc :=
 ⟨(hb.block bl (lt_of_block h.box)).trans h.box,own_below h.own hb,h.off,h.low⟩
set_option maxRecDepth 100000 in
set_option maxHeartbeats 2000000 in
theorem line_bad (line:ByteArray) (bl:Nat) (W:World) (a:Nat→Addr) (h:EnvD W a) (hs:line.size≤100000) (hr:(readO line.data.toList).2≠0) :
   Calls Tryz.prog 212 #[.string line,.pointer (some ⟨bl,0,none⟩)] W fun e w'=>e= .returned (.tuple #[.int .i64 0,errV a (readO line.data.toList).2])∧Below W.heap.size W w':=by
 have hrd:=read_any line W a h.env (by omega)
 obtain⟨E,hE⟩:∃E,(readO line.data.toList).2=E+1:=⟨(readO line.data.toList).2-1,by omega⟩
 rw[hE]at hrd ⊢
 simp only[errV]at hrd ⊢
 generalize (readO line.data.toList).1=x at hrd
 obtain⟨xp,xk,xv⟩:=x
 simp only[rowV]at hrd
 clear hr hE
 go_enter Tryz.func212,Tryz.ntmps212
 go_wp2_with fail
 refine hrd.mono ?_
 rintro e w1 ⟨rfl,hb1⟩
 clear hrd
 have hb2:Below W.heap.size W (w1.alloc (.cells #[.string xp,.int .i64 xk,.int .i64 xv] 54)):=hb1.alloc hb1.size _
 go_wp2
 go_ret2
 exact⟨rfl,hb2⟩
theorem own_shape {W:World} {base:Nat} {e:TypeId} {size:Nat} {v:Value} {n:Nat} {xs:List Value} (h:W.ownsRow base e size v n xs):∃q c,v= .slice q n c:=by
 rcases h.2 with⟨rfl,rfl⟩|⟨g,cap,cur,rfl,_⟩
 · exact⟨none,0,rfl⟩
 · exact⟨_,_,rfl⟩
theorem own_next {W:World} {base:Nat} {e:TypeId} {size:Nat} {v:Value} {n:Nat} {xs:List Value} (h:W.ownsRow base e size v (n+1) xs):∃g c,v= .slice (some ⟨g,0,none⟩) (n+1) c:=by
 rcases h.2 with⟨_,h0⟩|⟨g,cap,cur,rfl,_⟩
 · omega
 · exact⟨_,_,rfl⟩
theorem own_far {W:World} {base:Nat} {e:TypeId} {size:Nat} {v:Value} {n:Nat} {xs:List Value} (h:W.ownsRow base e size v n xs) {k:Nat} (hk:v.ownBlock=some k):base≤k:=(h.lt k hk).1
theorem row_cells (wr:World) (xp:ByteArray) (xk xv:Int) (j:Nat) (u:Value) (hj:(encR (xp,xk,xv))[j]? =some u):(wr.alloc (.cells #[.string xp,.int .i64 xk,.int .i64 xv] 54)).cell? ⟨wr.heap.size,j,none⟩=some u:=by
 rw[cell_of_row _ _ _ _ _ _ (heap_alloc_new _ _)]
 match j,hj with
 | 0,hj=>simpa [encR] using hj
 | 1,hj=>simpa [encR] using hj
 | 2,hj=>simpa [encR] using hj
 | j+3,hj=>simp [encR]at hj
theorem box_put {W w5:World} {B bl:Nat} {v v':Value} {acc:List Rw} {x:Rw} (h:BoxR W B bl v acc) (ho:w5.ownsRow B 54 3 v' (acc.length+1) (flatR acc++encR x)) (hg:W.grownBy w5 v.ownBlock) (hat:v'.ownBlock=v.ownBlock∨v'.ownBlock=some W.heap.size) :
   BoxR (w5.setCell ⟨bl,0,none⟩ v') B bl v' (acc++ [x])∧w5.heap[bl]? =some (.cells #[v] 33 (0,0)):=by
 have hlt:=lt_of_block h.box
 have hb5:w5.heap[bl]? =some (.cells #[v] 33 (0,0)):=(hg.block bl hlt (fun e=>h.off e.symm)).trans h.box
 have hoff:v'.ownBlock≠some bl:=by
   rcases hat with e | e
   · rw[e];exact h.off
   · rw[e];intro e';have:=Option.some.inj e';omega
 refine⟨⟨one_setCell hb5,?_,hoff,h.low⟩,hb5⟩
 rw[List.length_append,flat_append,flat_single]
 exact ownsRow_setCell_other ho hoff _
theorem inv_put {W0 W w5:World} {B bl P Q:Nat} {v v':Value} {acc:List Rw} {x:Rw} (h:BoxR W B bl v acc) (ho:w5.ownsRow B 54 3 v' (acc.length+1) (flatR acc++encR x)) (hg:W.grownBy w5 v.ownBlock) (hat:v'.ownBlock=v.ownBlock∨v'.ownBlock=some W.heap.size)
   (hb:Below W0.heap.size W0 W) (hoff:∀j,P≤j→j<Q→v.ownBlock≠some j) (hlt:bl<P) (hq:Q≤W0.heap.size) :
   InvR B bl P Q (w5.setCell ⟨bl,0,none⟩ v') (acc++ [x])∧∀j,P≤j→j<Q→(w5.setCell ⟨bl,0,none⟩ v').heap[j]? =W0.heap[j]? :=by
 have hsz:Q≤W.heap.size:=Nat.le_trans hq hb.size
 have hs5:W.heap.size≤w5.heap.size:=hg.size
 refine⟨⟨⟨v',(box_put h ho hg hat).1,fun j h1 h2 e=>?_⟩,hlt,?_⟩,fun j h1 h2=>?_⟩
 · rcases hat with e' | e'
   · exact hoff j h1 h2 (e'.symm.trans e)
   · rw[e']at e;have:=Option.some.inj e;omega
 · have:(w5.setCell ⟨bl,0,none⟩ v').heap.size=w5.heap.size:=by simp[World.setCell]
   omega
 · rw[heap_setCell_other _ _ _ _ (by show j≠bl;omega),hg.block j (by omega) (fun e=>hoff j h1 h2 e.symm)]
   exact hb.block j (by omega)
set_option maxRecDepth 100000 in
set_option maxHeartbeats 4000000 in
theorem line_first (line:ByteArray) (bl B:Nat) (v:Value) (W:World) (a:Nat→Addr) (h:EnvD W a) (hB:BoxR W B bl v []) (P Q:Nat) (hoff:∀j,P≤j→j<Q→v.ownBlock≠some j) (hlt:bl<P) (hq:Q≤W.heap.size) (hs:line.size≤100000) (hr:(readO line.data.toList).2=0) :
   Calls Tryz.prog 212 #[.string line,.pointer (some ⟨bl,0,none⟩)] W fun e w'=>e= .returned (.tuple #[.int .i64 (readO line.data.toList).1.2.1,.nilIface])∧InvR B bl P Q w' [(readO line.data.toList).1]∧(∀j,P≤j→j<Q→w'.heap[j]? =W.heap[j]?)∧Below B W w':=by
 obtain⟨i0,hi0,hz0,hs0,hby0⟩:=Tryz.rowInfo
 have hrd:=read_any line W a h.env (by omega)
 rw[hr]at hrd
 simp only[errV]at hrd
 obtain⟨x,hx⟩:∃x,(readO line.data.toList).1=x:=⟨_,rfl⟩
 rw[hx]at hrd ⊢
 clear hx hr
 obtain⟨xp,xk,xv⟩:=x
 simp only[rowV]at hrd
 have hBW:B≤W.heap.size:=Nat.le_trans hB.low (Nat.le_of_lt (lt_of_block hB.box))
 have hblW:bl<W.heap.size:=lt_of_block hB.box
 have hownW:∀k,v.ownBlock=some k→k<W.heap.size:=fun k hk=>(hB.own.lt k hk).2
 have HOFF:Hid (∀j,P≤j→j<Q→v.ownBlock≠some j):=hoff
 have HOWN:Hid (∀k,v.ownBlock=some k→k<W.heap.size):=hownW
 clear hoff hownW
 go_enter Tryz.func212,Tryz.ntmps212
 go_wp2_with fail
 refine hrd.mono ?_
 rintro e w1 ⟨rfl,hb1⟩
 clear hrd
 have hb2:Below W.heap.size W (w1.alloc (.cells #[.string xp,.int .i64 xk,.int .i64 xv] 54)):=hb1.alloc hb1.size _
 have hB2:=hB.below hb2
 have x0:(w1.alloc (.cells #[.string xp,.int .i64 xk,.int .i64 xv] 54)).cell? ⟨w1.heap.size,0,none⟩=some (.string xp):=by simp
 have x1:(w1.alloc (.cells #[.string xp,.int .i64 xk,.int .i64 xv] 54)).cell? ⟨w1.heap.size,1,none⟩=some (.int .i64 xk):=by simp
 have x2:(w1.alloc (.cells #[.string xp,.int .i64 xk,.int .i64 xv] 54)).cell? ⟨w1.heap.size,2,none⟩=some (.int .i64 xv):=by simp
 obtain⟨q,cp,rfl⟩:=own_shape hB2.own
 simp only[List.length_nil]at hB2
 have hcb:=cell_of_one hB2.box
 have hfb:=free_of_one hB2.box
 clear hB
 go_wp2_with fail
 have hbxW:W.heap.size≤w1.heap.size:=hb1.size
 generalize w1.heap.size=bx at x0 x1 x2 hbxW ⊢
 generalize w1.alloc (.cells #[.string xp,.int .i64 xk,.int .i64 xv] 54)=W2 at hb2 hB2 x0 x1 x2 hcb hfb ⊢
 go_quiet (fail)
 have hbq:Below W2.heap.size W2 (W2.drewN nq):=below_drewN (Below.refl _ _) nq
 have hb3:Below W.heap.size W (W2.drewN nq):=hb2.trans (hbq.mono hb2.size)
 have hB3:=hB2.below hbq
 have y0:=below_keep hbq x0
 have y1:=below_keep hbq x1
 have y2:=below_keep hbq x2
 have hcb3:=cell_of_one hB3.box
 have hfb3:=free_of_one hB3.box
 clear hB2 x0 x1 x2 hcb hfb hb2 hbq
 generalize W2.drewN nq=W3 at hb3 hB3 y0 y1 y2 hcb3 hfb3 ⊢
 have hal:Below W3.heap.size W3 (W3.alloc (.cells #[.string xp,.int .i64 xk,.int .i64 xv] 54)):=(Below.refl _ _).alloc (Nat.le_refl _) _
 have hB4:=hB3.below hal
 have hb4:Below B W (W3.alloc (.cells #[.string xp,.int .i64 xk,.int .i64 xv] 54)):=(hb3.trans (hal.mono hb3.size)).mono hBW
 go_wp2_with (at_builtin;refine wpList_append_own_at _ rfl _ _ 33 rfl B 54 i0 (.agg #[.string ⟨#[]⟩,.int .i64 0,.int .i64 0]) 3 32 Tryz.underlying33 hi0 hz0 hs0 hby0 rfl (by decide) (.slice q 0 cp) 0 (flatR []) rfl hB4.own ⟨W3.heap.size,0,none⟩ 1 1 (encR (xp,xk,xv)) rfl ?qd1 ?qd2 ?qd3 ?qd4 ?qd5 ?qd6 ?_)
 case qd1=>rfl
 case qd2 =>
   intro j u hj
   rw[Addr.add_lit,Nat.zero_add]
   exact row_cells W3 xp xk xv j u hj
 case qd3=>exact encR_one _
 case qd4=>unfold maxLen;omega
 case qd5=>omega
 case qd6=>exact Nat.le_trans hBW hb4.size
 intro v7 w7 hown7 hgrow7 _ hat7
 obtain⟨g7,cap7,rfl⟩:=own_next hown7
 obtain⟨hput,hb7⟩:=box_put (x:=(xp,xk,xv)) hB4 hown7 hgrow7 (by simpa using hat7)
 have hcb7:=cell_of_one hb7
 have hfb7:=free_of_one hb7
 have hW7:Below B W w7:=hb4.grown hgrow7 (Nat.le_trans hBW hb4.size) (fun k hk=>own_far hB4.own hk)
 have hW8:Below B W (w7.setCell ⟨bl,0,none⟩ (.slice (some ⟨g7,0,none⟩) (0+1) cap7)):=hW7.setCell hB4.low _
 have hbW4:Below W.heap.size W (W3.alloc (.cells #[.string xp,.int .i64 xk,.int .i64 xv] 54)):=hb3.trans (hal.mono hb3.size)
 have HPUT:Hid (InvR B bl P Q (w7.setCell ⟨bl,0,none⟩ (.slice (some ⟨g7,0,none⟩) (0+1) cap7)) ([]++ [(xp,xk,xv)])∧∀j,P≤j→j<Q→(w7.setCell ⟨bl,0,none⟩ (.slice (some ⟨g7,0,none⟩) (0+1) cap7)).heap[j]? =W.heap[j]?):=inv_put (x:=(xp,xk,xv)) hB4 hown7 hgrow7 (by simpa using hat7) hbW4 HOFF.out hlt hq
 have hk7:w7.cell? ⟨bx,1,none⟩=some (.int .i64 xk):=(World.cell?_of_block (hgrow7.block bx (cell_lt (below_keep hal y1)) (fun e=>by have:=HOWN.out bx e.symm;omega))).trans (below_keep hal y1)
 have hk8:(w7.setCell ⟨bl,0,none⟩ (.slice (some ⟨g7,0,none⟩) (0+1) cap7)).cell? ⟨bx,1,none⟩=some (.int .i64 xk):=by
   rw[World.cell?_setCell_other _ _ _ _ (by intro e;injection e;omega)];exact hk7
 clear hown7 hgrow7 hat7 hB4 hB3 hput y0 y1 y2
 go_wp2
 go_ret2
 exact⟨rfl,HPUT.out.1,HPUT.out.2,hW8⟩
set_option maxRecDepth 100000 in
set_option maxHeartbeats 8000000 in
theorem line_next (line:ByteArray) (bl B k:Nat) (v:Value) (acc:List Rw) (W:World) (a:Nat→Addr) (h:EnvD W a) (hB:BoxR W B bl v acc) (hs:line.size≤100000) (hl:acc.length≤100000) (P Q:Nat) (hoff:∀j,P≤j→j<Q→v.ownBlock≠some j) (hlt:bl<P) (hq:Q≤W.heap.size) (hk:acc.length=k+1) (hkk:k<acc.length) (hr:(readO line.data.toList).2=0) :
   Calls Tryz.prog 212 #[.string line,.pointer (some ⟨bl,0,none⟩)] W fun e w'=>(ltOf cfR (readO line.data.toList).1 acc[k]=true→e= .returned (.tuple #[.int .i64 0,errV a 9])∧Below W.heap.size W w') ∧
     (ltOf cfR (readO line.data.toList).1 acc[k]=false→e= .returned (.tuple #[.int .i64 (readO line.data.toList).1.2.1,.nilIface])∧InvR B bl P Q w' (acc++ [(readO line.data.toList).1])∧(∀j,P≤j→j<Q→w'.heap[j]? =W.heap[j]?)∧Below B W w'):=by
 obtain⟨i0,hi0,hz0,hs0,hby0⟩:=Tryz.rowInfo
 have hrd:=read_any line W a h.env (by omega)
 rw[hr]at hrd
 simp only[errV]at hrd
 obtain⟨x,hx⟩:∃x,(readO line.data.toList).1=x:=⟨_,rfl⟩
 rw[hx]at hrd
 have hless:=less_any x acc[k]
 obtain⟨lb,hlb⟩:∃lb,ltOf cfR x acc[k]=lb:=⟨_,rfl⟩
 rw[hlb]at hless
 have HX:Hid ((readO line.data.toList).1=x):=hx
 have HLB:Hid (ltOf cfR x acc[k]=lb):=hlb
 clear hx hr hlb
 obtain⟨xp,xk,xv⟩:=x
 simp only[rowV]at hrd
 have hBW:B≤W.heap.size:=Nat.le_trans hB.low (Nat.le_of_lt (lt_of_block hB.box))
 have hblW:bl<W.heap.size:=lt_of_block hB.box
 have hownW:∀k,v.ownBlock=some k→k<W.heap.size:=fun k hk=>(hB.own.lt k hk).2
 have HOFF:Hid (∀j,P≤j→j<Q→v.ownBlock≠some j):=hoff
 have HOWN:Hid (∀k,v.ownBlock=some k→k<W.heap.size):=hownW
 clear hoff hownW
 go_enter Tryz.func212,Tryz.ntmps212
 go_wp2_with fail
 refine hrd.mono ?_
 rintro e w1 ⟨rfl,hb1⟩
 clear hrd
 have hb2:Below W.heap.size W (w1.alloc (.cells #[.string xp,.int .i64 xk,.int .i64 xv] 54)):=hb1.alloc hb1.size _
 have hB2:=hB.below hb2
 have x0:(w1.alloc (.cells #[.string xp,.int .i64 xk,.int .i64 xv] 54)).cell? ⟨w1.heap.size,0,none⟩=some (.string xp):=by simp
 have x1:(w1.alloc (.cells #[.string xp,.int .i64 xk,.int .i64 xv] 54)).cell? ⟨w1.heap.size,1,none⟩=some (.int .i64 xk):=by simp
 have x2:(w1.alloc (.cells #[.string xp,.int .i64 xk,.int .i64 xv] 54)).cell? ⟨w1.heap.size,2,none⟩=some (.int .i64 xv):=by simp
 have hnx:∃g c,v= .slice (some ⟨g,0,none⟩) (k+1) c:=own_next (n:=k) (by rw[←hk];exact hB2.own)
 obtain⟨g,cp,rfl⟩:=hnx
 have hcb:=cell_of_one hB2.box
 have hfb:=free_of_one hB2.box
 have hrc:RowCells (w1.alloc (.cells #[.string xp,.int .i64 xk,.int .i64 xv] 54)) g 0 acc:=by
   rcases (own_cases hB2.own).2 with⟨e,_⟩|⟨g',cap',e,hc⟩
   · cases e
   · injection e with e1
     injection e1 with e1
     injection e1 with e1
     subst e1
     exact hc
 obtain⟨p0,p1,p2⟩:=hrc k hkk
 simp only[Nat.zero_add]at p0 p1 p2
 generalize acc[k]=y at p0 p1 p2 hless
 obtain⟨yp,yk,yv⟩:=y
 dsimp only at p0 p1 p2 hless
 clear hB hrc
 have hi1:(0:Int)<(k:Int)+1:=by omega
 have hi3:(k:Int)<(k:Int)+1:=by omega
 have hi4:(0:Int)≤(k:Int):=by omega
 have hi5:IntKind.i64.wrap (k:Int)=(k:Int):=IntWalk.i64_in _ (by omega)
 have hmxo:Tryz.prog.follows .mixedOrders=true:=by kernel_rfl
 have HKK:Hid (acc.length=k+1):=hk
 have HHL:Hid (acc.length≤100000):=hl
 clear hk hl
 go_wp2_with fail
 have hbxW:W.heap.size≤w1.heap.size:=hb1.size
 generalize w1.heap.size=bx at x0 x1 x2 hbxW ⊢
 generalize w1.alloc (.cells #[.string xp,.int .i64 xk,.int .i64 xv] 54)=W2 at hb2 hB2 x0 x1 x2 hcb hfb p0 p1 p2 ⊢
 have hless2:=fun d os=>Calls.regrown_of (w:=W2) (d:=d) (os:=os) (hless _)
 have f0:=cell_regrown x0
 have f1:=cell_regrown x1
 have f2:=cell_regrown x2
 have f3:=cell_regrown hcb
 have f4:=cell_regrown p0
 have f5:=cell_regrown p1
 have f6:=cell_regrown p2
 refine wp_region_quiet_below hmxo (by kernel_rfl) ?_
 repeat (go_big_quiet_step (exact hless2 _ _))
 refine wpQuiet_nil ?_
 intro _ hw'
 obtain⟨⟨dq,osq⟩,hw''⟩:=hw'
 subst hw''
 clear hless2 hless f0 f1 f2 f3 f4 f5 f6
 have hbq:=below_regrown W2 dq osq
 have hb3:Below W.heap.size W (grow (redrawn W2 dq) osq):=hb2.trans (hbq.mono hb2.size)
 have hB3:=hB2.below hbq
 have y0:=below_keep hbq x0
 have y1:=below_keep hbq x1
 have y2:=below_keep hbq x2
 clear hB2 x0 x1 x2 hcb hfb hb2 hbq p0 p1 p2
 generalize grow (redrawn W2 dq) osq=W3 at hb3 hB3 y0 y1 y2 ⊢
 have hcb3:=cell_of_one hB3.box
 have hfb3:=free_of_one hB3.box
 cases lb
 · have hal:Below W3.heap.size W3 (W3.alloc (.cells #[.string xp,.int .i64 xk,.int .i64 xv] 54)):=(Below.refl _ _).alloc (Nat.le_refl _) _
   have hB4:=hB3.below hal
   have hb4:Below B W (W3.alloc (.cells #[.string xp,.int .i64 xk,.int .i64 xv] 54)):=(hb3.trans (hal.mono hb3.size)).mono hBW
   have HB4:Hid (BoxR (W3.alloc (.cells #[.string xp,.int .i64 xk,.int .i64 xv] 54)) B bl (.slice (some ⟨g,0,none⟩) (k+1) cp) acc):=hB4
   clear hB4 hB3
   go_wp2_with (at_builtin;refine wpList_append_own_at _ rfl _ _ 33 rfl B 54 i0 (.agg #[.string ⟨#[]⟩,.int .i64 0,.int .i64 0]) 3 32 Tryz.underlying33 hi0 hz0 hs0 hby0 rfl (by decide) (.slice (some ⟨g,0,none⟩) (k+1) cp) acc.length (flatR acc) rfl HB4.out.own ⟨W3.heap.size,0,none⟩ 1 1 (encR (xp,xk,xv)) rfl ?qd1 ?qd2 ?qd3 ?qd4 ?qd5 ?qd6 ?_)
   case qd1=>rfl
   case qd2 =>
     intro j u hj
     rw[Addr.add_lit,Nat.zero_add]
     exact row_cells W3 xp xk xv j u hj
   case qd3=>exact encR_one _
   case qd4=>have:=HHL.out;unfold maxLen;omega
   case qd5=>have:=HHL.out;omega
   case qd6=>exact Nat.le_trans hBW hb4.size
   intro v7 w7 hown7 hgrow7 _ hat7
   obtain⟨g7,cap7,rfl⟩:=own_next hown7
   obtain⟨hput,hb7⟩:=box_put (x:=(xp,xk,xv)) HB4.out hown7 hgrow7 (by simpa using hat7)
   have hcb7:=cell_of_one hb7
   have hfb7:=free_of_one hb7
   have hW7:Below B W w7:=hb4.grown hgrow7 (Nat.le_trans hBW hb4.size) (fun k hk=>own_far HB4.out.own hk)
   have hW8:Below B W (w7.setCell ⟨bl,0,none⟩ (.slice (some ⟨g7,0,none⟩) (acc.length+1) cap7)):=hW7.setCell HB4.out.low _
   have hbW4:Below W.heap.size W (W3.alloc (.cells #[.string xp,.int .i64 xk,.int .i64 xv] 54)):=hb3.trans (hal.mono hb3.size)
   have HPUT:Hid (InvR B bl P Q (w7.setCell ⟨bl,0,none⟩ (.slice (some ⟨g7,0,none⟩) (acc.length+1) cap7)) (acc++ [(xp,xk,xv)])∧∀j,P≤j→j<Q→(w7.setCell ⟨bl,0,none⟩ (.slice (some ⟨g7,0,none⟩) (acc.length+1) cap7)).heap[j]? =W.heap[j]?):=inv_put (x:=(xp,xk,xv)) HB4.out hown7 hgrow7 (by simpa using hat7) hbW4 HOFF.out hlt hq
   have hk7:w7.cell? ⟨bx,1,none⟩=some (.int .i64 xk):=(World.cell?_of_block (hgrow7.block bx (cell_lt (below_keep hal y1)) (fun e=>by have:=HOWN.out bx e.symm;omega))).trans (below_keep hal y1)
   have hk8:(w7.setCell ⟨bl,0,none⟩ (.slice (some ⟨g7,0,none⟩) (acc.length+1) cap7)).cell? ⟨bx,1,none⟩=some (.int .i64 xk):=by
     rw[World.cell?_setCell_other _ _ _ _ (by intro e;injection e;omega)];exact hk7
   clear hown7 hgrow7 hat7 hput y0 y1 y2
   go_wp2
   go_ret2
   refine⟨fun h9=>?_,fun _=>⟨by rw[HX.out];rfl,by rw[HX.out];exact HPUT.out.1,HPUT.out.2,hW8⟩⟩
   rw[HX.out,HLB.out]at h9
   cases h9
 · have ho:=(h.below hb3).order
   go_wp2
   go_quiet (fail)
   go_wp2
   go_ret2
   refine⟨fun _=>⟨rfl,below_drewN hb3 nq⟩,fun h9=>?_⟩
   rw[HX.out,HLB.out]at h9
   cases h9
theorem InvR.keep {B bl P Q:Nat} {W W':World} {acc:List Rw} (h:InvR B bl P Q W acc) (hb:Below W.heap.size W W'):InvR B bl P Q W' acc:=by
 obtain⟨⟨v,hv,ho⟩,hl,hq⟩:=h
 exact⟨⟨v,hv.below hb,ho⟩,hl,Nat.le_trans hq hb.size⟩
theorem InvR.set {B bl P Q:Nat} {W:World} {acc:List Rw} (j o:Nat) (u:Value) (h1:P≤j) (h2:j<Q) (h:InvR B bl P Q W acc):InvR B bl P Q (W.setCell ⟨j,o,none⟩ u) acc:=by
 obtain⟨⟨v,hv,ho⟩,hl,hq⟩:=h
 have hsz:(W.setCell ⟨j,o,none⟩ u).heap.size=W.heap.size:=by simp[World.setCell]
 refine⟨⟨v,⟨?_,ownsRow_setCell_other hv.own (ho j h1 h2) u,hv.off,hv.low⟩,ho⟩,hl,by omega⟩
 rw[heap_setCell_other _ _ _ _ (by show bl≠j;omega)]
 exact hv.box
theorem last_is {β:Type} (acc:List β) (k:Nat) (d:β) (hk:acc.length=k+1) (hkk:k<acc.length):acc.getLastD d=acc[k]:=by
 have hne:acc≠ []:=by intro e;rw[e]at hk;simp at hk
 rw[List.getLastD_eq_getLast?,List.getLast?_eq_some_getLast hne,Option.getD_some,List.getLast_eq_getElem]
 congr 1
 omega
theorem taker_rows (a:Nat→Addr) (bl B P Q:Nat) (hBP:B≤P):Taker dataK a (fun W=>EnvD W a) 212 bl B P Q (InvR B bl P Q) where
 env:=fun h=>h.weak
 ent:=enters_of Tryz.func212 (by kernel_rfl) rfl
 low:=hBP
 keep:=fun h hb=>h.keep hb
 set:=fun j o u h1 h2 h=>h.set j o u h1 h2
 take := fun W line acc hE hI hQ hs hl=>by
   have HI:Hid (InvR B bl P Q W acc):=hI
   obtain⟨⟨v,hv,ho⟩,hlt,hq⟩:=hI
   have hBW:B≤W.heap.size:=Nat.le_trans hv.low (Nat.le_of_lt (lt_of_block hv.box))
   show Calls _ _ _ _ fun e w'=>Below B W w'∧_∧((stepE dataK acc line.data.toList≠0∧_)∨(stepE dataK acc line.data.toList=0∧_))
   have hst:stepE dataK acc line.data.toList=if (readO line.data.toList).2≠0 then (readO line.data.toList).2 else if acc≠ []∧ltOf cfR (readO line.data.toList).1 (acc.getLastD (bytesOf [],0,0))=true then 9 else 0:=rfl
   by_cases hr:(readO line.data.toList).2≠0
   · rw[if_pos hr]at hst
     refine(line_bad line bl W a hE hs hr).mono fun e w' ⟨he,hb⟩=>⟨hb.mono hBW,fun j h1 h2=>hb.block j (by omega),Or.inl ⟨by rw[hst];exact hr,by rw[he,hst],HI.out.keep hb⟩⟩
   · have hr0:(readO line.data.toList).2=0:=Classical.byContradiction hr
     rw[if_neg hr]at hst
     by_cases hac:acc= []
     · subst hac
       rw[if_neg (by simp)]at hst
       exact(line_first line bl B v W a hE hv P Q ho hlt hq hs hr0).mono fun e w' ⟨he,hi,hf,hb⟩=>⟨hb,hf,Or.inr ⟨hst,he,hi⟩⟩
     · obtain⟨k,hk⟩:∃k,acc.length=k+1:=⟨acc.length-1,by have:=List.length_pos_iff.2 hac;omega⟩
       have hkk:k<acc.length:=by omega
       rw[last_is acc k _ hk hkk]at hst
       refine(line_next line bl B k v acc W a hE hv hs hl P Q ho hlt hq hk hkk hr0).mono fun e w' ⟨h1,h2⟩=>?_
       cases hb:ltOf cfR (readO line.data.toList).1 acc[k] with
       | true =>
         rw[if_pos ⟨hac,hb⟩]at hst
         obtain⟨he,hbl⟩:=h1 hb
         exact⟨hbl.mono hBW,fun j q1 q2=>hbl.block j (by omega),Or.inl ⟨by rw[hst];decide,by rw[he,hst],HI.out.keep hbl⟩⟩
       | false =>
         rw[if_neg (fun e=>by rw[hb]at e;cases e.2)]at hst
         obtain⟨he,hi,hf,hbl⟩:=h2 hb
         exact⟨hbl,hf,Or.inr ⟨hst,he,hi⟩⟩
end Go.Proofs.YtdhkdjlgmbejnaaGreatDoor
