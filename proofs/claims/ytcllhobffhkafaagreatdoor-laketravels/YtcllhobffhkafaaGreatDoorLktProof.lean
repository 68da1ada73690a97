/-
  Proved: LakeTravels returns true for every text, all acts and every age, whatever memory is there, where the listed package-level variables hold what the program's text lays; its arguments read as before.
-/
import Derived.Test.YtcllhobffhkafaaGreatDoorLktWalk
import Derived.Test.YtcllhobffhkafaaGreatDoorLktFact
import Derived.Test.YtcllhobffhkafaaGreatDoorStoreAll
import Derived.Test.YtcllhobffhkafaaGreatDoorTie
import Derived.OpenShut
set_option maxRecDepth 100000
set_option maxHeartbeats 16000000
open Go.Proofs.Tryz
open Go renaming laidMetH->Qa,trodAll_cons_mk->Qb
namespace Go.Proofs.YtcllhobffhkafaaGreatDoor
open Go.ChangeShapes Go.WideShapes Go.ChangeAt Go.RowKit Go.Lib Go.Shelf
open Go.ChangeMaps (open_string shut_string)
theorem cJ:(Rows.lakeTravelsRow.laid.filter fun x=>x.2.handleName?.isNone)=EH:=by kernel_rfl
theorem cK : (Rows.lakeTravelsRow.laid.filter fun x => x.2.handleName?.isSome) = [("errors.errorType", Rows.laid_errors_errorType)] := by kernel_rfl
theorem zk6 (os:Os) (d:os.Started) (H:Type) (enc:TypeId×Value->H) :
  ReturnsInHanded {} checked os 3 .any (fun w args=>(Rows.lakeTravelsSpec.pre enc prog f3 [] false w args/\Qa prog Rows.lakeTravelsRow.laid w)/\sizedMet enc prog f3 (OpenSpec.ofChange Rows.lakeTravelsSpec) false w args)
   (Rows.lakeTravelsSpec.post enc prog f3 false true false false):=by
 refine bP (C:=checked) (X:=fun w _=>Qa prog Rows.lakeTravelsRow.laid w) (fun _ _ _ hh h=>h.of_heap hh) Tryz.own d (by kernel_rfl) func3
  (ChangeSpec.witness_shaped (enc:=enc) (C:=checked) (os:=os) (X:=fun w _=>Qa prog Rows.lakeTravelsRow.laid w) false (JT os) #[.string ⟨#[]⟩,.slice none 0 0,.int .i64 0] 8 (bU os)
   (bV os) (by kernel_rfl) (by kernel_rfl) (by kernel_rfl)
   (bW os _ cJ cK)) ?_
 intro W o args ds gs Q g R T hL;have b:∀(j:Nat) t v,Tryz.f3.params[j]? =some t->args[j]? =some v->Value.okWide prog W .any o t v:=g;have r:=R;obtain⟨p,q,s,Y,rfl,aa,_⟩:=R;have c:DataW.TrodAll enc prog W 0 (fun _=>true) true Tryz.f3.params.toList args.toList ds p:=s;have i:Tryz.f3.params= #[9,22,3]:=by kernel_rfl
 rw[i]at c b;obtain⟨u,r0,d0,ab,p0,q0,y,rfl,rfl,h0,c⟩:=trodAll_cons c;obtain⟨z,r1,B,ac,p1,q1,rfl,rfl,rfl,h1,c⟩:=trodAll_cons c;obtain⟨D,r2,d2,ad,p2,q2,rfl,rfl,rfl,h2,c⟩:=trodAll_cons c;obtain⟨rfl,rfl,rfl⟩:=trodAll_nil c;obtain rfl:args= #[u,z,D]:=by
  obtain⟨l⟩:=args;simp only at y;rw[y]
 obtain⟨rfl,rfl⟩:=trodVars_none Y;obtain⟨m,rfl,rfl,rfl,E⟩:=open_string underlying9 (b 0 9 u rfl rfl) h0;obtain⟨f1,f⟩:=h1;obtain⟨ae,af,ag,rfl⟩:=okWide_slice underlying22 (b 1 22 z rfl rfl);obtain⟨x1,l1,F,K⟩:=bR f;obtain⟨n,rfl,rfl,rfl,L⟩:=open_int underlying3 (b 2 3 D rfl rfl) h2;obtain⟨M,N⟩:=bX cJ cK hL;obtain⟨a,hE,P⟩:=bY T M N;refine(zj6 (cC W a P) (fun _ hX=>hE.below hX) (Below.refl _ _) m E l1 F K n (RG L)).mono fun e W' ⟨he,hb⟩=>?_;subst he;have k:Rows.lakeTravelsSpec.fn H ([.lit (.string m.data.toList),B,.lit (.int .i64 n)]++ [])= { results:= [.lit (.bool true)],args:= [.lit (.string m.data.toList),B,.lit (.int .i64 n)] } :=by simp[Rows.lakeTravelsSpec]
 refine⟨_,rfl,_,_,_, [], []++(p1++([]++ [])), [],r,?_,?_,?_,hb.frame _,fun h=>by cases h⟩
 ·rw[k];exact trodAll_mk1 (shut_bool underlying4 true)
 ·rw[k];exact Qb (shut_string underlying9 E) (Qb (Below.trod Tryz.laidOut (by kernel_rfl) (of_decide_eq_true (by kernel_rfl)) ⟨f1,f⟩ hb (DataW.trod_lt _ _ _ _ f)) (Qb (shut_int underlying3 L) (trodAll_mk0)))
 ·rw[k];rfl
theorem zk7:Rows.LakeTravelsSaid :=
 OpenClaim.holds_of_wide 3 f3 rfl rfl rfl rfl rfl rfl rfl ⟨rfl,rfl,rfl,rfl,rfl⟩ rfl rfl rfl rfl rfl (by kernel_rfl) func3 zk0
  (of_decide_eq_true (by kernel_rfl)) (by unfold Func.isWrapper;rw[if_neg (of_decide_eq_false (by kernel_rfl))];exact⟨rfl,rfl⟩)
  (fun os started H enc _=>zk6 os started H enc)
theorem lakeTravels_holds:Rows.LakeTravelsCardSaid :=
 Claim7.holds_tied_plain_at .later [] Rows.lakeTravelsCard.laidKinds true Rows.lakeTravelsCard.stood.harness true
  zk7 (fun _ h=>by cases h) zk1 (fun _ h=>by cases h) lakeTravels_row_tie rfl ⟨rfl,rfl⟩ zk2 rfl
  (fun f fn hf hfn=>by
   obtain rfl:f=3:=Option.some.inj (zk4.symm.trans hf) |>.symm;obtain rfl:fn=f3:=(Option.some.inj (Tryz.func3.symm.trans hfn)).symm;exact⟨bZ,fun j t ht=>by
    rw[zk5]at ht;have b:t∈ [9,22,3]:=by simpa using Array.mem_of_getElem? ht
    simp only[List.mem_cons,List.not_mem_nil,or_false]at b;rcases b with rfl | rfl | rfl
    ·exact cA
    ·exact cB
    ·exact zi5⟩)
  zk3
#print axioms lakeTravels_holds
end Go.Proofs.YtcllhobffhkafaaGreatDoor
