/-
  Proved: LakeKeeps returns true for every text and all acts, whatever memory is there, where the listed package-level variables hold what the program's text lays; its arguments read as before.
-/
import Derived.Test.YtcllhobffhkafaaGreatDoorLkkWalk
import Derived.Test.YtcllhobffhkafaaGreatDoorLkkFact
import Derived.Test.YtcllhobffhkafaaGreatDoorStoreAll
import Derived.Test.YtcllhobffhkafaaGreatDoorTie
import Derived.OpenShut
set_option maxRecDepth 100000
set_option maxHeartbeats 16000000
open Go.Proofs.Tryz
namespace Go.Proofs.YtcllhobffhkafaaGreatDoor
open Go.ChangeShapes Go.WideShapes Go.ChangeAt Go.RowKit Go.Lib Go.Shelf
open Go.ChangeMaps (open_string shut_string)
theorem cD:(Rows.lakeKeepsRow.laid.filter fun x=>x.2.handleName?.isNone)=EH:=by kernel_rfl
theorem cE : (Rows.lakeKeepsRow.laid.filter fun x => x.2.handleName?.isSome) = [("errors.errorType", Rows.laid_errors_errorType)] := by kernel_rfl
theorem zi9 (os:Os) (d:os.Started) (H:Type) (enc:TypeId×Value->H) :
  ReturnsInHanded {} checked os 4 .any (fun w args=>(Rows.lakeKeepsSpec.pre enc prog f4 [] false w args/\laidMetH prog Rows.lakeKeepsRow.laid w)/\sizedMet enc prog f4 (OpenSpec.ofChange Rows.lakeKeepsSpec) false w args)
   (Rows.lakeKeepsSpec.post enc prog f4 false true false false):=by
 refine bP (C:=checked) (X:=fun w _=>laidMetH prog Rows.lakeKeepsRow.laid w) (fun _ _ _ hh h=>h.of_heap hh) Tryz.own d (by kernel_rfl) func4
  (ChangeSpec.witness_shaped (enc:=enc) (C:=checked) (os:=os) (X:=fun w _=>laidMetH prog Rows.lakeKeepsRow.laid w) false (JT os) #[.string ⟨#[]⟩,.slice none 0 0] 8 (bU os)
   (bV os) (by kernel_rfl) (by kernel_rfl) (by kernel_rfl)
   (bW os _ cD cE)) ?_
 intro W n args ds gs M g N P hL;have b:∀(j:Nat) t v,Tryz.f4.params[j]? =some t->args[j]? =some v->Value.okWide prog W .any n t v:=g;have o:=N;obtain⟨p,q,r,Q,rfl,aa,_⟩:=N;have c:DataW.TrodAll enc prog W 0 (fun _=>true) true Tryz.f4.params.toList args.toList ds p:=r;have i:Tryz.f4.params= #[9,22]:=by kernel_rfl
 rw[i]at c b;obtain⟨s,r0,d0,ab,p0,q0,u,rfl,rfl,R,c⟩:=trodAll_cons c;obtain⟨y,r1,z,ac,T,q1,rfl,rfl,rfl,Y,c⟩:=trodAll_cons c;obtain⟨rfl,rfl,rfl⟩:=trodAll_nil c;obtain rfl:args= #[s,y]:=by
  obtain⟨l⟩:=args;simp only at u;rw[u]
 obtain⟨rfl,rfl⟩:=trodVars_none Q;obtain⟨m,rfl,rfl,rfl,B⟩:=open_string underlying9 (b 0 9 s rfl rfl) R;obtain⟨f1,f⟩:=Y;obtain⟨ad,ae,af,rfl⟩:=okWide_slice underlying22 (b 1 22 y rfl rfl);obtain⟨x1,l1,D,E⟩:=bR f;obtain⟨F,K⟩:=bX cD cE hL;obtain⟨a,hE,L⟩:=bY P F K;refine(zg3 (cC W a L) (fun _ hX=>hE.below hX) (Below.refl _ _) m B l1 D E).mono fun e W' ⟨he,hb⟩=>?_;subst he;have k:Rows.lakeKeepsSpec.fn H ([.lit (.string m.data.toList),z]++ [])= { results:= [.lit (.bool true)],args:= [.lit (.string m.data.toList),z] } :=by simp[Rows.lakeKeepsSpec]
 refine⟨_,rfl,_,_,_, [], []++(T++ []), [],o,?_,?_,?_,hb.frame _,fun h=>by cases h⟩
 ·rw[k];exact trodAll_mk1 (shut_bool underlying4 true)
 ·rw[k];exact trodAll_cons_mk (shut_string underlying9 B) (trodAll_cons_mk (Below.trod Tryz.laidOut (by kernel_rfl) (of_decide_eq_true (by kernel_rfl)) ⟨f1,f⟩ hb (DataW.trod_lt _ _ _ _ f)) (trodAll_mk0))
 ·rw[k];rfl
theorem zj0:Rows.LakeKeepsSaid :=
 OpenClaim.holds_of_wide 4 f4 rfl rfl rfl rfl rfl rfl rfl ⟨rfl,rfl,rfl,rfl,rfl⟩ rfl rfl rfl rfl rfl (by kernel_rfl) func4 zg7
  (of_decide_eq_true (by kernel_rfl)) (by unfold Func.isWrapper;rw[if_neg (of_decide_eq_false (by kernel_rfl))];exact⟨rfl,rfl⟩)
  (fun os started H enc _=>zi9 os started H enc)
theorem lakeKeeps_holds:Rows.LakeKeepsCardSaid :=
 Claim7.holds_tied_plain_at .later [] Rows.lakeKeepsCard.laidKinds true Rows.lakeKeepsCard.stood.harness true
  zj0 (fun _ h=>by cases h) zg8 (fun _ h=>by cases h) lakeKeeps_row_tie rfl ⟨rfl,rfl⟩ zg9 rfl
  (fun f fn hf hfn=>by
   obtain rfl:f=4:=Option.some.inj (zh1.symm.trans hf) |>.symm;obtain rfl:fn=f4:=(Option.some.inj (Tryz.func4.symm.trans hfn)).symm;exact⟨bZ,fun j t ht=>by
    rw[zh2]at ht;have b:t∈ [9,22]:=by simpa using Array.mem_of_getElem? ht
    simp only[List.mem_cons,List.not_mem_nil,or_false]at b;rcases b with rfl | rfl
    ·exact cA
    ·exact cB⟩)
  zh0
#print axioms lakeKeeps_holds
end Go.Proofs.YtcllhobffhkafaaGreatDoor
