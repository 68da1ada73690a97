/- By an AI agent. -/
import Derived.Test.YtgckdomafbnmkaaGreatDoorPackTFact
import Derived.Test.YtgckdomafbnmkaaGreatDoorHandedX
import Derived.Test.YtgckdomafbnmkaaGreatDoorTie
import Derived.Test.YtgckdomafbnmkaaGreatDoorCards
import Derived.SevenTiedAt
import Derived.OpenShut
set_option maxRecDepth 100000
set_option maxHeartbeats 16000000
namespace Go.Proofs.YtgckdomafbnmkaaGreatDoor
open Go.ChangeShapes Go.WideShapes Go.ChangeAt Go.RowKit Go.Lib Go.Shelf
theorem zb0q:(Rows.packTellsRow.laid.filter fun x=>x.2.handleName?.isNone)=plainList:=by kernel_rfl
theorem zb0r : (Rows.packTellsRow.laid.filter fun x => x.2.handleName?.isSome) = [("errors.errorType", Rows.laid_errors_errorType)] := by kernel_rfl
theorem zc8m (os:Os) (d:os.Started) (H:Type) (enc:TypeId×Value->H) :
  ReturnsInHanded {} Tryz.checked os 4 .any (fun w args=>(Rows.packTellsSpec.pre enc Tryz.prog Tryz.f4 [] false w args/\laidMetH Tryz.prog Rows.packTellsRow.laid w)/\sizedMet enc Tryz.prog Tryz.f4 (OpenSpec.ofChange Rows.packTellsSpec) false w args)
   (Rows.packTellsSpec.post enc Tryz.prog Tryz.f4 false true false false):=by
 refine zc7w (C:=Tryz.checked) (X:=fun w _=>laidMetH Tryz.prog Rows.packTellsRow.laid w) (fun _ _ _ hh h=>h.of_heap hh) Tryz.own d (by kernel_rfl) Tryz.func4
  (ChangeSpec.witness_shaped (enc:=enc) (C:=Tryz.checked) (os:=os) (X:=fun w _=>laidMetH Tryz.prog Rows.packTellsRow.laid w) false (tellsWorld os) #[.slice none 0 0,.int .i64 0,.slice none 0 0,.agg #[.int .i64 0,.int .i64 0,.int .i64 0,.int .i64 0,.int .i64 0,.string ⟨#[]⟩,.slice none 0 0],.slice none 0 0] 8 (zc8h os)
   (zc8i os) (by kernel_rfl) (by kernel_rfl) (by kernel_rfl)
   (zc8j os _ zb0q zb0r)) ?_
 intro W y args ds gs ad k hW ae hL;have b:∀(j:Nat) t v,Tryz.f4.params[j]? =some t->args[j]? =some v->Value.okWide Tryz.prog W .any y t v:=k;have z:=hW;obtain⟨p,q,A,hV,rfl,af,_⟩:=hW;have c:DataW.TrodAll enc Tryz.prog W 0 (fun _=>true) true Tryz.f4.params.toList args.toList ds p:=A;have n:Tryz.f4.params= #[23,3,22,25,39]:=by kernel_rfl
 rw[n]at c b;obtain⟨B,r0,D,ag,p0,q0,E,rfl,rfl,h0,c⟩:=trodAll_cons c;obtain⟨F,r1,d1,ah,p1,q1,rfl,rfl,rfl,h1,c⟩:=trodAll_cons c;obtain⟨G,r2,I,ai,p2,q2,rfl,rfl,rfl,h2,c⟩:=trodAll_cons c;obtain⟨J,r3,K,aj,p3,q3,rfl,rfl,rfl,L,c⟩:=trodAll_cons c;obtain⟨M,r4,N,ak,p4,q4,rfl,rfl,rfl,h4,c⟩:=trodAll_cons c;obtain⟨rfl,rfl,rfl⟩:=trodAll_nil c;obtain rfl:args= #[B,F,G,J,M]:=by
  obtain⟨l⟩:=args;simp only at E;rw[E]
 obtain⟨rfl,rfl⟩:=trodVars_none hV;obtain⟨r,rfl,rfl,rfl,O⟩:=open_int Tryz.underlying3 (b 1 3 F rfl rfl) h1;obtain⟨s,sq,sc,rfl,hx,P,hl,Q⟩:=zc7y (b 3 25 J rfl rfl) L;obtain⟨f0,f⟩:=h0;obtain⟨f2,g⟩:=h2;obtain⟨f3,m⟩:=L;obtain⟨f4,i⟩:=h4;obtain⟨q0,l0,c0,rfl⟩:=okWide_slice Tryz.underlying23 (b 0 23 B rfl rfl);obtain⟨q2,l2,c2,rfl⟩:=okWide_slice Tryz.underlying22 (b 2 22 G rfl rfl);obtain⟨q4,l4,c4,rfl⟩:=okWide_slice Tryz.underlying39 (b 4 39 M rfl rfl);obtain⟨R,hg,S,T⟩:=zb0p f;obtain⟨l,hp,U,V⟩:=zc8a g;obtain⟨ts,ht,Y,Z⟩:=zc8b i;obtain⟨aa,ab⟩:=zc8k zb0q zb0r hL;obtain⟨a,u,ac⟩:=zc8l ae aa ab;refine(zc7n (storeK2 W a u) (scanK W a u) (fun X hX=>u.below hX) _ R r _ l s _ _ ts W ac (Below.refl _ _) hg S T hp U V hx P hl Q ht Y Z).mono fun e W' ⟨he,hb⟩=>?_;subst he;have o:Rows.packTellsSpec.fn H ([D,.lit (.int .i64 r),I,K,N]++ [])= { results:= [.lit (.bool true)],args:= [D,.lit (.int .i64 r),I,K,N] } :=by simp[Rows.packTellsSpec]
 refine⟨_,rfl,_,_,_, [],p0++([]++(p2++(p3++(p4++ [])))), [],z,?_,?_,?_,hb.frame _,fun h=>by cases h⟩
 ·rw[o];exact trodAll_mk1 (shut_bool Tryz.underlying4 true)
 ·rw[o];exact trodAll_cons_mk (Below.trod Tryz.laidOut (by kernel_rfl) (of_decide_eq_true (by kernel_rfl)) ⟨f0,f⟩ hb (DataW.trod_lt _ _ _ _ f)) (trodAll_cons_mk (shut_int Tryz.underlying3 O) (trodAll_cons_mk (Below.trod Tryz.laidOut (by kernel_rfl) (of_decide_eq_true (by kernel_rfl)) ⟨f2,g⟩ hb (DataW.trod_lt _ _ _ _ g)) (trodAll_cons_mk (Below.trod Tryz.laidOut (by kernel_rfl) (of_decide_eq_true (by kernel_rfl)) ⟨f3,m⟩ hb (DataW.trod_lt _ _ _ _ m)) (trodAll_cons_mk (Below.trod Tryz.laidOut (by kernel_rfl) (of_decide_eq_true (by kernel_rfl)) ⟨f4,i⟩ hb (DataW.trod_lt _ _ _ _ i)) (trodAll_mk0)))))
 ·rw[o];rfl
theorem zc8n:Rows.PackTellsSaid :=
 OpenClaim.holds_of_wide 4 Tryz.f4 rfl rfl rfl rfl rfl rfl rfl ⟨rfl,rfl,rfl,rfl,rfl⟩ rfl rfl rfl rfl rfl (by kernel_rfl) Tryz.func4 zc7r
  (of_decide_eq_true (by kernel_rfl)) (by unfold Func.isWrapper;rw[if_neg (of_decide_eq_false (by kernel_rfl))];exact⟨rfl,rfl⟩)
  (fun os started H enc _=>zc8m os started H enc)
theorem packTells_holds:Rows.PackTellsCardSaid :=
 Claim7.holds_tied_plain_at .later [] Rows.packTellsCard.laidKinds true Rows.packTellsCard.stood.harness true
  zc8n (fun _ h=>by cases h) (by kernel_rfl) (fun _ h=>by cases h) packTells_row_tie rfl ⟨rfl,rfl⟩ (by kernel_rfl) rfl
  (fun f fn hf hfn=>by
   obtain rfl : f = 4 := Option.some.inj ((show Tryz.prog.funcNamed "deedbox/deedboxlaw3.PackTells" = some 4 by kernel_rfl).symm.trans hf) |>.symm;obtain rfl : fn = Tryz.f4 := (Option.some.inj (Tryz.func4.symm.trans hfn)).symm;exact ⟨by kernel_rfl, fun j t ht => by
    have c:Tryz.f4.params= #[23,3,22,25,39]:=by kernel_rfl
    rw[c]at ht;have b:t∈ [23,3,22,25,39]:=by simpa using Array.mem_of_getElem? ht
    simp only[List.mem_cons,List.not_mem_nil,or_false]at b;rcases b with rfl | rfl | rfl | rfl | rfl
    ·exact(show Tryz.prog.wantsStandIn 23=false by kernel_rfl)
    ·exact(show Tryz.prog.wantsStandIn 3=false by kernel_rfl)
    ·exact(show Tryz.prog.wantsStandIn 22=false by kernel_rfl)
    ·exact(show Tryz.prog.wantsStandIn 25=false by kernel_rfl)
    ·exact(show Tryz.prog.wantsStandIn 39=false by kernel_rfl)⟩)
  (by kernel_rfl)
#print axioms packTells_holds
end Go.Proofs.YtgckdomafbnmkaaGreatDoor
