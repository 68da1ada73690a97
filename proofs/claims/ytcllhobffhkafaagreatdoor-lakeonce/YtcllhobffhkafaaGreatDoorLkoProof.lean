/-
  Proved: LakeOnce returns true for every text, all acts, every index, all rows and keys, whatever memory is there, where the listed package-level variables hold what the program's text lays; its arguments read as before.
-/
import Derived.Test.YtcllhobffhkafaaGreatDoorStoreAll
import Derived.Test.YtcllhobffhkafaaGreatDoorTie
import Derived.OpenShut
set_option maxRecDepth 100000
set_option maxHeartbeats 16000000
open Go.Proofs.Tryz
open Go renaming trodAll_cons_mk->Qb,laidMetH->Qc
open Go.ChangeShapes renaming trodAll_cons->Qa
namespace Go.Proofs.YtcllhobffhkafaaGreatDoor
open Go.ChangeShapes Go.WideShapes Go.ChangeAt Go.RowKit Go.Lib Go.Shelf
open Go.ChangeMaps (open_string shut_string)
theorem WW:(Rows.lakeOnceRow.laid.filter fun x=>x.2.handleName?.isNone)=EH:=by kernel_rfl
theorem WX : (Rows.lakeOnceRow.laid.filter fun x => x.2.handleName?.isSome) = [("errors.errorType", Rows.laid_errors_errorType)] := by kernel_rfl
theorem zd8 (os:Os) (d:os.Started) (H:Type) (enc:TypeId×Value->H) :
  ReturnsInHanded {} checked os 5 .any (fun w args=>(Rows.lakeOnceSpec.pre enc prog f5 [] false w args/\Qc prog Rows.lakeOnceRow.laid w)/\sizedMet enc prog f5 (OpenSpec.ofChange Rows.lakeOnceSpec) false w args)
   (Rows.lakeOnceSpec.post enc prog f5 false true false false):=by
 refine zb3 (C:=checked) (X:=fun w _=>Qc prog Rows.lakeOnceRow.laid w) (fun _ _ _ hh h=>h.of_heap hh) Tryz.own d (by kernel_rfl) func5
  (ChangeSpec.witness_shaped (enc:=enc) (C:=checked) (os:=os) (X:=fun w _=>Qc prog Rows.lakeOnceRow.laid w) false (Kj os) #[.string ⟨#[]⟩,.slice none 0 0,.int .i64 0,.slice none 0 0,.slice none 0 0] 8 (zc3 os)
   (zc4 os) (by kernel_rfl) (by kernel_rfl) (by kernel_rfl)
   (zc5 os _ WW WX)) ?_
 intro W s args ds gs af k hW ag hL;have b:∀(j:Nat) t v,Tryz.f5.params[j]? =some t->args[j]? =some v->Value.okWide prog W .any s t v:=k;have u:=hW;obtain⟨p,q,y,hV,rfl,ah,_⟩:=hW;have c:DataW.TrodAll enc prog W 0 (fun _=>true) true Tryz.f5.params.toList args.toList ds p:=y;have m:Tryz.f5.params= #[9,22,3,35,32]:=by kernel_rfl
 rw[m]at c b;obtain⟨z,r0,d0,ai,p0,q0,B,rfl,rfl,h0,c⟩:=Qa c;obtain⟨D,r1,E,aj,p1,q1,rfl,rfl,rfl,h1,c⟩:=Qa c;obtain⟨F,r2,d2,ak,p2,q2,rfl,rfl,rfl,h2,c⟩:=Qa c;obtain⟨K,r3,L,al,p3,q3,rfl,rfl,rfl,h3,c⟩:=Qa c;obtain⟨M,r4,N,am,p4,q4,rfl,rfl,rfl,h4,c⟩:=Qa c;obtain⟨rfl,rfl,rfl⟩:=trodAll_nil c;obtain rfl:args= #[z,D,F,K,M]:=by
  obtain⟨l⟩:=args;simp only at B;rw[B]
 obtain⟨rfl,rfl⟩:=trodVars_none hV;obtain⟨o,rfl,rfl,rfl,P⟩:=open_string underlying9 (b 0 9 z rfl rfl) h0;obtain⟨f1,f⟩:=h1;obtain⟨an,ao,ap,rfl⟩:=okWide_slice underlying22 (b 1 22 D rfl rfl);obtain⟨x1,l1,Q,R⟩:=zb6 f;obtain⟨r,rfl,rfl,rfl,T⟩:=open_int underlying3 (b 2 3 F rfl rfl) h2;obtain⟨f3,g⟩:=h3;obtain⟨aq,ar,au,rfl⟩:=okWide_slice underlying35 (b 3 35 K rfl rfl);obtain⟨x3,l3,Y,_⟩:=WR g;obtain⟨f4,i⟩:=h4;obtain⟨av,aw,ax,rfl⟩:=okWide_slice underlying32 (b 4 32 M rfl rfl);obtain⟨x4,l4,aa,ab⟩:=WT i;obtain⟨ac,ad⟩:=zc6 WW WX hL;obtain⟨a,hE,ae⟩:=zc7 ag ac ad;refine(za1 (zd7 W a ae) (fun _ hX=>hE.below hX) (Below.refl _ _) o P l1 Q R r (Rd T) l3 Y l4 ab aa).mono fun e W' ⟨he,hb⟩=>?_;subst he;have n:Rows.lakeOnceSpec.fn H ([.lit (.string o.data.toList),E,.lit (.int .i64 r),L,N]++ [])= { results:= [.lit (.bool true)],args:= [.lit (.string o.data.toList),E,.lit (.int .i64 r),L,N] } :=by simp[Rows.lakeOnceSpec]
 refine⟨_,rfl,_,_,_, [], []++(p1++([]++(p3++(p4++ [])))), [],u,?_,?_,?_,hb.frame _,fun h=>by cases h⟩
 ·rw[n];exact trodAll_mk1 (shut_bool underlying4 true)
 ·rw[n];exact Qb (shut_string underlying9 P) (Qb (Below.trod Tryz.laidOut (by kernel_rfl) (of_decide_eq_true (by kernel_rfl)) ⟨f1,f⟩ hb (DataW.trod_lt _ _ _ _ f)) (Qb (shut_int underlying3 T) (Qb (Below.trod Tryz.laidOut (by kernel_rfl) (of_decide_eq_true (by kernel_rfl)) ⟨f3,g⟩ hb (DataW.trod_lt _ _ _ _ g)) (Qb (Below.trod Tryz.laidOut (by kernel_rfl) (of_decide_eq_true (by kernel_rfl)) ⟨f4,i⟩ hb (DataW.trod_lt _ _ _ _ i)) (trodAll_mk0)))))
 ·rw[n];rfl
theorem zd9:Rows.LakeOnceSaid :=
 OpenClaim.holds_of_wide 5 f5 rfl rfl rfl rfl rfl rfl rfl ⟨rfl,rfl,rfl,rfl,rfl⟩ rfl rfl rfl rfl rfl (by kernel_rfl) func5 za5
  (of_decide_eq_true (by kernel_rfl)) (by unfold Func.isWrapper;rw[if_neg (of_decide_eq_false (by kernel_rfl))];exact⟨rfl,rfl⟩)
  (fun os started H enc _=>zd8 os started H enc)
theorem lakeOnce_holds:Rows.LakeOnceCardSaid :=
 Claim7.holds_tied_plain_at .later [] Rows.lakeOnceCard.laidKinds true Rows.lakeOnceCard.stood.harness true
  zd9 (fun _ h=>by cases h) za6 (fun _ h=>by cases h) lakeOnce_row_tie rfl ⟨rfl,rfl⟩ za7 rfl
  (fun f fn hf hfn=>by
   obtain rfl:f=5:=Option.some.inj (za9.symm.trans hf) |>.symm;obtain rfl:fn=f5:=(Option.some.inj (Tryz.func5.symm.trans hfn)).symm;exact⟨zc8,fun j t ht=>by
    rw[zb0]at ht;have b:t∈ [9,22,3,35,32]:=by simpa using Array.mem_of_getElem? ht
    simp only[List.mem_cons,List.not_mem_nil,or_false]at b;rcases b with rfl | rfl | rfl | rfl | rfl
    ·exact zd0
    ·exact zd1
    ·exact zc9
    ·exact zd2
    ·exact zd3⟩)
  za8
#print axioms lakeOnce_holds
end Go.Proofs.YtcllhobffhkafaaGreatDoor
