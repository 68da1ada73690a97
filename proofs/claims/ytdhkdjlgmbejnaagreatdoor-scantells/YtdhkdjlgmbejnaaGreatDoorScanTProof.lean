/- By an AI agent. -/
import Derived.Test.YtdhkdjlgmbejnaaGreatDoorScanTWalk
import Derived.Test.YtdhkdjlgmbejnaaGreatDoorScanTn
import Derived.Test.YtdhkdjlgmbejnaaGreatDoorTie
import Derived.Test.YtdhkdjlgmbejnaaGreatDoorCards
import Derived.SevenTiedAt
import Derived.OpenShut
namespace Go.Proofs.YtdhkdjlgmbejnaaGreatDoor
open Go.ChangeShapes Go.WideShapes Go.ChangeAt Go.RowKit Go.Lib Go.Shelf
theorem scanTells_plain:(Rows.scanTellsRow.laid.filter fun x=>x.2.handleName?.isNone)=plainList:=by kernel_rfl
theorem scanTells_handle : (Rows.scanTellsRow.laid.filter fun x => x.2.handleName?.isSome) = [("errors.errorType", Rows.laid_errors_errorType)] := by kernel_rfl
set_option maxRecDepth 100000 in
theorem scanTells_lifted (os:Os) (started:os.Started) (H:Type) (enc:TypeId×Value→H) :
   ReturnsInHanded {} Tryz.checked os 4 .any (fun w args=>(Rows.scanTellsSpec.pre enc Tryz.prog Tryz.f4 [] false w args∧laidMetH Tryz.prog Rows.scanTellsRow.laid w)∧sizedMet enc Tryz.prog Tryz.f4 (OpenSpec.ofChange Rows.scanTellsSpec) false w args)
     (Rows.scanTellsSpec.post enc Tryz.prog Tryz.f4 false true false false):=by
 refine returns_and_shaped (C:=Tryz.checked) (X:=fun w _=>laidMetH Tryz.prog Rows.scanTellsRow.laid w) (fun _ _ _ hh h=>h.of_heap hh) Tryz.own started (by kernel_rfl) Tryz.func4
   (ChangeSpec.witness_shaped (enc:=enc) (C:=Tryz.checked) (os:=os) (X:=fun w _=>laidMetH Tryz.prog Rows.scanTellsRow.laid w) false (tellsWorld os) #[.slice none 0 0,.agg #[.int .i64 0,.int .i64 0,.int .i64 0,.int .i64 0,.int .i64 0,.string ⟨#[]⟩,.slice none 0 0],.int .i64 0,.int .i64 0,.int .i64 0] 8 (tellsWorld_os os)
     (tellsWorld_shaped os) (by kernel_rfl) (by kernel_rfl) (by kernel_rfl)
     (tellsWorld_met os _ scanTells_plain scanTells_handle)) ?_
 intro W base args ds gs before hval0 hW hsh hL
 have hval:∀(j:Nat) t v,Tryz.f4.params[j]? =some t→args[j]? =some v→Value.okWide Tryz.prog W .any base t v:=hval0
 have hW':=hW
 obtain⟨p,q,hA0,hV,rfl,hfz,_⟩:=hW
 have hA:DataW.TrodAll enc Tryz.prog W 0 (fun _=>true) true Tryz.f4.params.toList args.toList ds p:=hA0
 have hpar:Tryz.f4.params= #[22,25,3,3,3]:=by kernel_rfl
 rw[hpar]at hA hval
 obtain⟨v0,r0,d0,ds0,p0,q0,ea,rfl,rfl,h0,hA⟩:=trodAll_cons hA
 obtain⟨v1,r1,d1,ds1,p1,q1,rfl,rfl,rfl,h1,hA⟩:=trodAll_cons hA
 obtain⟨v2,r2,d2,ds2,p2,q2,rfl,rfl,rfl,h2,hA⟩:=trodAll_cons hA
 obtain⟨v3,r3,d3,ds3,p3,q3,rfl,rfl,rfl,h3,hA⟩:=trodAll_cons hA
 obtain⟨v4,r4,d4,ds4,p4,q4,rfl,rfl,rfl,h4,hA⟩:=trodAll_cons hA
 obtain⟨rfl,rfl,rfl⟩:=trodAll_nil hA
 obtain rfl:args= #[v0,v1,v2,v3,v4]:=by
   obtain⟨l⟩:=args
   simp only at ea
   rw[ea]
 obtain⟨rfl,rfl⟩:=trodVars_none hV
 obtain⟨n2,rfl,rfl,rfl,wn2⟩:=open_int Tryz.underlying3 (hval 2 3 v2 rfl rfl) h2
 obtain⟨n3,rfl,rfl,rfl,wn3⟩:=open_int Tryz.underlying3 (hval 3 3 v3 rfl rfl) h3
 obtain⟨n4,rfl,rfl,rfl,wn4⟩:=open_int Tryz.underlying3 (hval 4 3 v4 rfl rfl) h4
 obtain⟨s,sq,sc,rfl,hx,hop,hl,hsz⟩:=open_snap (hval 1 25 v1 rfl rfl) h1
 obtain⟨f0,hf0⟩:=h0
 obtain⟨f1,hf1⟩:=h1
 obtain⟨q0,l0,c0,rfl⟩:=okWide_slice Tryz.underlying22 (hval 0 22 v0 rfl rfl)
 obtain⟨l,hp,hpl,hpz⟩:=open_pieces hf0
 obtain⟨hL1,hL2⟩:=tells_split scanTells_plain scanTells_handle hL
 obtain⟨a,hE,hEr⟩:=env_errsT hsh hL1 hL2
 refine(scanTells_any (storeK2 W a hE) (filesK W a hE) (scanK W a hE) (scanF W a hE) _ l s _ n2 n3 n4 W hEr (Below.refl _ _) hp hpl hpz hx hop hl hsz).mono fun e W' ⟨he,hb⟩=>?_
 subst he
 have e1:Rows.scanTellsSpec.fn H ([d0,d1,.lit (.int .i64 n2),.lit (.int .i64 n3),.lit (.int .i64 n4)]++ [])= { results:= [.lit (.bool true)],args:= [d0,d1,.lit (.int .i64 n2),.lit (.int .i64 n3),.lit (.int .i64 n4)] } :=by simp[Rows.scanTellsSpec]
 refine⟨_,rfl,_,_,_, [],p0++(p1++([]++([]++([]++ [])))), [],hW',?_,?_,?_,hb.frame _,fun h=>by cases h⟩
 · rw[e1];exact trodAll_mk1 (shut_bool Tryz.underlying4 true)
 · rw[e1]
   exact trodAll_cons_mk (Below.trod Tryz.laidOut (by kernel_rfl) (of_decide_eq_true (by kernel_rfl)) ⟨f0,hf0⟩ hb (DataW.trod_lt _ _ _ _ hf0)) (trodAll_cons_mk (Below.trod Tryz.laidOut (by kernel_rfl) (of_decide_eq_true (by kernel_rfl)) ⟨f1,hf1⟩ hb (DataW.trod_lt _ _ _ _ hf1)) (trodAll_cons_mk (shut_int Tryz.underlying3 wn2) (trodAll_cons_mk (shut_int Tryz.underlying3 wn3) (trodAll_cons_mk (shut_int Tryz.underlying3 wn4) (trodAll_mk0)))))
 · rw[e1];rfl
theorem scanTells_row:Rows.ScanTellsSaid :=
 OpenClaim.holds_of_wide 4 Tryz.f4 rfl rfl rfl rfl rfl rfl rfl ⟨rfl,rfl,rfl,rfl,rfl⟩ rfl rfl rfl rfl rfl (by kernel_rfl) Tryz.func4 scanTells_facts
   (of_decide_eq_true (by kernel_rfl)) (by unfold Func.isWrapper;rw[if_neg (of_decide_eq_false (by kernel_rfl))];exact⟨rfl,rfl⟩)
   (fun os started H enc _=>scanTells_lifted os started H enc)
theorem scanTells_holds:Rows.ScanTellsCardSaid :=
 Claim7.holds_tied_plain_at .later [] Rows.scanTellsCard.laidKinds true Rows.scanTellsCard.stood.harness true
   scanTells_row (fun _ h=>by cases h) (by kernel_rfl) (fun _ h=>by cases h) scanTells_row_tie rfl ⟨rfl,rfl⟩ (by kernel_rfl) rfl
   (fun f fn hf hfn=>by
     obtain rfl : f = 4 := Option.some.inj ((show Tryz.prog.funcNamed "deedbox/deedboxlaw3.ScanTells" = some 4 by kernel_rfl).symm.trans hf) |>.symm
     obtain rfl:fn=Tryz.f4:=(Option.some.inj (Tryz.func4.symm.trans hfn)).symm
     exact⟨by kernel_rfl,fun j t ht=>by
       have hp:Tryz.f4.params= #[22,25,3,3,3]:=by kernel_rfl
       rw[hp]at ht
       have hm:t∈ [22,25,3,3,3]:=by simpa using Array.mem_of_getElem? ht
       simp only[List.mem_cons,List.not_mem_nil,or_false]at hm
       rcases hm with rfl | rfl | rfl | rfl | rfl
       · exact(show Tryz.prog.wantsStandIn 22=false by kernel_rfl)
       · exact(show Tryz.prog.wantsStandIn 25=false by kernel_rfl)
       · exact(show Tryz.prog.wantsStandIn 3=false by kernel_rfl)
       · exact(show Tryz.prog.wantsStandIn 3=false by kernel_rfl)
       · exact(show Tryz.prog.wantsStandIn 3=false by kernel_rfl)⟩)
   (by kernel_rfl)
#print axioms scanTells_holds
end Go.Proofs.YtdhkdjlgmbejnaaGreatDoor
