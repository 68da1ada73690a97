/- By an AI agent. -/
import Derived.Test.YtdhkdjlgmbejnaaGreatDoorFileLaw
namespace Go.Proofs.YtdhkdjlgmbejnaaGreatDoor
open Go.RowKit Go.Extern.Stop Go.Stop Go.Extern Go.Sort Go.Shelf Go.Lib
theorem cells6 (w:World) (f:Fl):∀j u,(encF f)[j]? =some u→(w.alloc (.cells #[.string f.1,.string f.2.1,.int .i64 f.2.2.1,.int .i64 f.2.2.2.1,.int .i64 f.2.2.2.2.1,.int .i64 f.2.2.2.2.2] 63)).cell? ((⟨w.heap.size,0,none⟩:Addr).add j)=some u:=by
 intro j u hu
 rw[Addr.add_lit,Nat.zero_add,cell_of_row _ _ _ _ _ _ (heap_alloc_new _ _)]
 rw[←hu]
 simp[encF]
set_option maxRecDepth 100000 in
set_option maxHeartbeats 2000000 in
theorem isBehind_any (p q:ByteArray) (w:World) (h1:p.size≤100000) (h2:q.size≤100000) :
   Calls Tryz.prog 68 #[.string p,.string q] w fun e w'=>e= .returned (.bool (decide (pk q.data.toList<pk p.data.toList)))∧w'=w:=by
 have ha:=pathOf_any p w h1
 have hb:=pathOf_any q w h2
 have hpp:=@pk_some p.data.toList
 have hpq:=@pk_some q.data.toList
 have key:∀s:List UInt8,(pathR s=([],0,5)∧pk s=0)∨(∃n:Int,pathR s=(kData,n,0)∧pk s=n∧1≤n∧n≤1073741824)∨∃n:Int,pathR s=(kGone,n,0)∧pk s=1073741824+n∧1≤n∧n≤1073741824:=fun s=>by
   cases hs:pathO s with
   | none=>exact Or.inl ⟨pathR_none hs,by unfold pk;rw[hs]⟩
   | some gn =>
     obtain⟨g,n⟩:=gn
     obtain⟨e,b1,b2⟩:=pk_some hs
     cases g
     · exact Or.inr (Or.inl ⟨n,pathR_some hs,by simpa using e,b1,b2⟩)
     · exact Or.inr (Or.inr ⟨n,pathR_some hs,by simpa using e,b1,b2⟩)
 have ka:=key p.data.toList
 have kb:=key q.data.toList
 generalize pk p.data.toList=A at ka
 generalize pk q.data.toList=B at kb
 generalize pathR p.data.toList=RA at ha ka
 generalize pathR q.data.toList=RB at hb kb
 clear key hpp hpq h1 h2
 have eD:bytesOf kData=⟨#[100,97,116,97]⟩:=rfl
 have eG:bytesOf kGone=⟨#[103,111,110,101]⟩:=rfl
 have eE:bytesOf []=⟨#[]⟩:=rfl
 rcases ka with⟨rfl,rfl⟩|⟨n,rfl,rfl,n1,n2⟩|⟨n,rfl,rfl,n1,n2⟩<;>rcases kb with⟨rfl,rfl⟩|⟨m,rfl,rfl,m1,m2⟩|⟨m,rfl,rfl,m1,m2⟩
 · dsimp only at ha hb
   rw[eE]at ha
   rw[eE]at hb
   go_enter Tryz.func68,Tryz.ntmps68
   go_wp2_with fail
   refine ha.mono ?_
   rintro e w1 ⟨rfl,hw1⟩
   rw[hw1]
   clear ha hw1
   go_wp2_with fail
   refine hb.mono ?_
   rintro e w2 ⟨rfl,hw2⟩
   rw[hw2]
   clear hb hw2
   go_wp2
   go_ret
   exact⟨rfl,rfl⟩
 · dsimp only at ha hb
   rw[eE]at ha
   rw[eD]at hb
   have hd:decide ((B:Int)<0)=false:=decide_eq_false (by omega)
   rw[hd]
   clear hd
   have hg:∀W:World,(binOp .gtr 9 (.string ⟨#[]⟩) (.string ⟨#[100,97,116,97]⟩)).run Tryz.prog W= .ok (.bool false) W:=fun W=>by first | rfl | kernel_rfl | simp[binOp,Op.stringOp]
   go_enter Tryz.func68,Tryz.ntmps68
   go_wp2_with fail
   refine ha.mono ?_
   rintro e w1 ⟨rfl,hw1⟩
   rw[hw1]
   clear ha hw1
   go_wp2_with fail
   refine hb.mono ?_
   rintro e w2 ⟨rfl,hw2⟩
   rw[hw2]
   clear hb hw2
   go_wp2
   go_ret
   exact⟨rfl,rfl⟩
 · dsimp only at ha hb
   rw[eE]at ha
   rw[eG]at hb
   have hd:decide ((1073741824+m:Int)<0)=false:=decide_eq_false (by omega)
   rw[hd]
   clear hd
   have hg:∀W:World,(binOp .gtr 9 (.string ⟨#[]⟩) (.string ⟨#[103,111,110,101]⟩)).run Tryz.prog W= .ok (.bool false) W:=fun W=>by first | rfl | kernel_rfl | simp[binOp,Op.stringOp]
   go_enter Tryz.func68,Tryz.ntmps68
   go_wp2_with fail
   refine ha.mono ?_
   rintro e w1 ⟨rfl,hw1⟩
   rw[hw1]
   clear ha hw1
   go_wp2_with fail
   refine hb.mono ?_
   rintro e w2 ⟨rfl,hw2⟩
   rw[hw2]
   clear hb hw2
   go_wp2
   go_ret
   exact⟨rfl,rfl⟩
 · dsimp only at ha hb
   rw[eD]at ha
   rw[eE]at hb
   have hd:decide ((0:Int)<A)=true:=decide_eq_true (by omega)
   rw[hd]
   clear hd
   have hg:∀W:World,(binOp .gtr 9 (.string ⟨#[100,97,116,97]⟩) (.string ⟨#[]⟩)).run Tryz.prog W= .ok (.bool true) W:=fun W=>by first | rfl | kernel_rfl | simp[binOp,Op.stringOp]
   go_enter Tryz.func68,Tryz.ntmps68
   go_wp2_with fail
   refine ha.mono ?_
   rintro e w1 ⟨rfl,hw1⟩
   rw[hw1]
   clear ha hw1
   go_wp2_with fail
   refine hb.mono ?_
   rintro e w2 ⟨rfl,hw2⟩
   rw[hw2]
   clear hb hw2
   go_wp2
   go_ret
   exact⟨rfl,rfl⟩
 · dsimp only at ha hb
   rw[eD]at ha
   rw[eD]at hb
   go_enter Tryz.func68,Tryz.ntmps68
   go_wp2_with fail
   refine ha.mono ?_
   rintro e w1 ⟨rfl,hw1⟩
   rw[hw1]
   clear ha hw1
   go_wp2_with fail
   refine hb.mono ?_
   rintro e w2 ⟨rfl,hw2⟩
   rw[hw2]
   clear hb hw2
   go_wp2
   go_ret
   exact⟨rfl,rfl⟩
 · dsimp only at ha hb
   rw[eD]at ha
   rw[eG]at hb
   have hd:decide ((1073741824+m:Int)<A)=false:=decide_eq_false (by omega)
   rw[hd]
   clear hd
   have hg:∀W:World,(binOp .gtr 9 (.string ⟨#[100,97,116,97]⟩) (.string ⟨#[103,111,110,101]⟩)).run Tryz.prog W= .ok (.bool false) W:=fun W=>by first | rfl | kernel_rfl | simp[binOp,Op.stringOp]
   go_enter Tryz.func68,Tryz.ntmps68
   go_wp2_with fail
   refine ha.mono ?_
   rintro e w1 ⟨rfl,hw1⟩
   rw[hw1]
   clear ha hw1
   go_wp2_with fail
   refine hb.mono ?_
   rintro e w2 ⟨rfl,hw2⟩
   rw[hw2]
   clear hb hw2
   go_wp2
   go_ret
   exact⟨rfl,rfl⟩
 · dsimp only at ha hb
   rw[eG]at ha
   rw[eE]at hb
   have hd:decide ((0:Int)<1073741824+n)=true:=decide_eq_true (by omega)
   rw[hd]
   clear hd
   have hg:∀W:World,(binOp .gtr 9 (.string ⟨#[103,111,110,101]⟩) (.string ⟨#[]⟩)).run Tryz.prog W= .ok (.bool true) W:=fun W=>by first | rfl | kernel_rfl | simp[binOp,Op.stringOp]
   go_enter Tryz.func68,Tryz.ntmps68
   go_wp2_with fail
   refine ha.mono ?_
   rintro e w1 ⟨rfl,hw1⟩
   rw[hw1]
   clear ha hw1
   go_wp2_with fail
   refine hb.mono ?_
   rintro e w2 ⟨rfl,hw2⟩
   rw[hw2]
   clear hb hw2
   go_wp2
   go_ret
   exact⟨rfl,rfl⟩
 · dsimp only at ha hb
   rw[eG]at ha
   rw[eD]at hb
   have hd:decide ((B:Int)<1073741824+n)=true:=decide_eq_true (by omega)
   rw[hd]
   clear hd
   have hg:∀W:World,(binOp .gtr 9 (.string ⟨#[103,111,110,101]⟩) (.string ⟨#[100,97,116,97]⟩)).run Tryz.prog W= .ok (.bool true) W:=fun W=>by first | rfl | kernel_rfl | simp[binOp,Op.stringOp]
   go_enter Tryz.func68,Tryz.ntmps68
   go_wp2_with fail
   refine ha.mono ?_
   rintro e w1 ⟨rfl,hw1⟩
   rw[hw1]
   clear ha hw1
   go_wp2_with fail
   refine hb.mono ?_
   rintro e w2 ⟨rfl,hw2⟩
   rw[hw2]
   clear hb hw2
   go_wp2
   go_ret
   exact⟨rfl,rfl⟩
 · dsimp only at ha hb
   rw[eG]at ha
   rw[eG]at hb
   go_enter Tryz.func68,Tryz.ntmps68
   go_wp2_with fail
   refine ha.mono ?_
   rintro e w1 ⟨rfl,hw1⟩
   rw[hw1]
   clear ha hw1
   go_wp2_with fail
   refine hb.mono ?_
   rintro e w2 ⟨rfl,hw2⟩
   rw[hw2]
   clear hb hw2
   go_wp2
   go_ret
   exact⟨congrArg (fun b=>Ending.returned (Value.bool b)) (by first | rfl | (simp<;>omega)),rfl⟩
def findF (fs:List Fl) (p:ByteArray):Int:=match fs.findIdx? (fun f=>decide (f.1=p)) with
 | some i=>i
 | none=> -1
theorem findF_at {fs:List Fl} {p:ByteArray} {n:Nat} (hn:n<fs.length) (h:∀j (h:j<fs.length),j<n→fs[j].1≠p) (e:fs[n].1=p):findF fs p=n:=by
 unfold findF
 have:fs.findIdx? (fun f=>decide (f.1=p))=some n:=by
   rw[List.findIdx?_eq_some_iff_getElem]
   exact⟨hn,by simpa using e,fun j hj=>by simpa using h j (by omega) hj⟩
 rw[this]
theorem findF_no {fs:List Fl} {p:ByteArray} (h:∀j (h:j<fs.length),fs[j].1≠p):findF fs p= -1:=by
 unfold findF
 have:fs.findIdx? (fun f=>decide (f.1=p))=none:=by
   rw[List.findIdx?_eq_none_iff]
   intro f hf
   obtain⟨j,hj,rfl⟩:=List.mem_iff_getElem.1 hf
   simpa using h j hj
 rw[this]
theorem nopath_succ {fs:List Fl} {n:Nat} {p:ByteArray} (h:∀j (h:j<fs.length),j<n→fs[j].1≠p) (hn:n<fs.length) (e:fs[n].1≠p):∀j (h:j<fs.length),j<n+1→fs[j].1≠p:=fun j hj hjn=>by
 rcases Nat.lt_or_ge j n with h' | h'
 · exact h j hj h'
 · obtain rfl:j=n:=by omega
   exact e
set_option maxRecDepth 100000 in
set_option maxHeartbeats 2000000 in
theorem findOf_any (v:Value) (fs:List Fl) (p:ByteArray) (w:World) (hx:FlsAt w v fs) (hl:fs.length≤20000) :
   Calls Tryz.prog 36 #[v,.string p] w fun e w'=>e= .returned (.int .i64 (findF fs p))∧w'=w:=by
 obtain⟨q,cap,rfl⟩:=hx.form
 have HFX:Hid (FlsAt w (.slice q fs.length cap) fs):=hx
 obtain⟨L,hL⟩:∃L,fs.length=L:=⟨_,rfl⟩
 have HX:Hid (fs.length=L):=hL
 rw[hL]at hl ⊢
 generalize hR:findF fs p=R
 have HR:Hid (findF fs p=R):=hR
 clear hL hx hR
 go_enter Tryz.func36,Tryz.ntmps36
 go_wp2
 go_loop [5] (fun k=> ∃n:Nat,n≤L∧k= .int .i64 n∧∀j (h:j<fs.length),j<n→fs[j].1≠p) (fun k=>L-(intOf k).toNat)
 case atStart=>exact ⟨0,by omega,rfl,fun j h h'=>absurd h' (Nat.not_lt_zero _)⟩
 case round =>
   obtain⟨n,hn,rfl,hno⟩:=hrel
   have HNO:Hid (∀j (h:j<fs.length),j<n→fs[j].1≠p):=hno
   clear hno
   by_cases hlt:n<L
   · have hltx:n<fs.length:=by rw[HX.out];exact hlt
     obtain⟨b,o,hq,hc⟩:=HFX.out.cells (fun e=>by rw[e]at hltx;simp at hltx)
     subst hq
     have c0:=(hc n hltx).1
     have hi:(n:Int)<(L:Int):=by omega
     have hi0':(0:Int)≤(n:Int):=by omega
     by_cases he:fs[n].1=p
     · have hRR:R=n:=by rw[←HR.out];exact findF_at hltx HNO.out he
       subst hRR
       rw[he]at c0
       have d1:(p.toList == p.toList)=true:=by simp
       clear hc he hltx
       go_wp2
       go_ret
       exact⟨rfl,rfl⟩
     · have HN1:Hid (∀j (h:j<fs.length),j<n+1→fs[j].1≠p):=nopath_succ HNO.out hltx he
       have d1:(fs[n].1.toList == p.toList)=false:=neBB (fun e=>he (part_ext e))
       generalize fs[n].1=fp at c0 d1
       clear hc he hltx
       go_wp2
       go_round
       case rel=>exact ⟨n+1,by omega,by go_num,HN1.out⟩
       case measure=>simp [intOf];omega
   · obtain rfl:n=L:=by omega
     have hRR:R= -1:=by rw[←HR.out];exact findF_no (fun j hj=>HNO.out j hj (by rw[←HX.out];exact hj))
     subst hRR
     go_wp2
     go_ret
     exact⟨rfl,rfl⟩
def kept (P:Fl→Bool) (fs:List Fl) (n:Nat):List Fl:=(fs.take n).filter P
theorem kept_zero (P:Fl→Bool) (fs:List Fl):kept P fs 0= []:=by simp[kept]
theorem kept_len (P:Fl→Bool) (fs:List Fl) (n:Nat):(kept P fs n).length≤n:=by
 have:=List.length_filter_le P (fs.take n)
 rw[List.length_take]at this
 unfold kept
 omega
theorem kept_succ (P:Fl→Bool) (fs:List Fl) (n:Nat) (h:n<fs.length):kept P fs (n+1)=if P fs[n]=true then kept P fs n++ [fs[n]] else kept P fs n:=by
 unfold kept
 rw[←List.take_append_getElem h,List.filter_append]
 split
 · rename_i hp;rw[List.filter_cons_of_pos hp];rfl
 · rename_i hp;rw[List.filter_cons_of_neg hp];simp
theorem kept_all (P:Fl→Bool) (fs:List Fl):kept P fs fs.length=fs.filter P:=by unfold kept;rw[List.take_length]
def inP (lo hi:Int) (f:Fl):Bool:=decide ((if f.2.2.2.1<lo then lo else f.2.2.2.1)≤(if hi<f.2.2.2.2.1 then hi else f.2.2.2.2.1))
set_option maxRecDepth 100000 in
set_option maxHeartbeats 4000000 in
theorem pruneOf_any (v:Value) (fs:List Fl) (lo hi:Int) (w:World) (hx:FlsAt w v fs) (hl:fs.length≤20000) :
   Calls Tryz.prog 50 #[v,.int .i64 lo,.int .i64 hi] w fun e w'=> ∃v',e= .returned v'∧FlsAt w' v' (fs.filter (inP lo hi))∧Below w.heap.size w w':=by
 obtain⟨i0,hi0,hz0,hs0,hby0⟩:=Tryz.fileInfo
 obtain⟨q,cap,rfl⟩:=hx.form
 have HFX:Hid (FlsAt w (.slice q fs.length cap) fs):=hx
 obtain⟨L,hL⟩:∃L,fs.length=L:=⟨_,rfl⟩
 have HX:Hid (fs.length=L):=hL
 rw[hL]at hl ⊢
 clear hL hx
 go_enter Tryz.func50,Tryz.ntmps50
 go_wp2
 go_loopw [7,8] (fun out k wr=> ∃n:Nat,n≤L∧k= .int .i64 n∧Below w.heap.size w wr∧wr.ownsRow w.heap.size 63 6 out (kept (inP lo hi) fs n).length (flatF (kept (inP lo hi) fs n))) (fun _ k _=>L-(intOf k).toNat)
 case atStart=>exact ⟨0,by omega,rfl,Below.refl _ _,by rw[kept_zero];exact World.ownsRow_nil _ _ _ _⟩
 case round =>
   obtain⟨n,hn,rfl,hb,hown⟩:=hrel
   have OW:Hid (wr.ownsRow w.heap.size 63 6 u7 (kept (inP lo hi) fs n).length (flatF (kept (inP lo hi) fs n))):=hown
   clear hown
   by_cases hlt:n<L
   · have hltx:n<fs.length:=by rw[HX.out];exact hlt
     obtain⟨b,o,hq,hc⟩:=(HFX.out.below hb).cells (fun e=>by rw[e]at hltx;simp at hltx)
     subst hq
     obtain⟨c0,c1,c2,c3,c4,c5⟩:=hc n hltx
     have HKL:Hid ((kept (inP lo hi) fs n).length≤L):=by
       show _≤_
       have:=kept_len (inP lo hi) fs n
       omega
     have hke:(kept (inP lo hi) fs (n+1))=if (inP lo hi) fs[n]=true then (kept (inP lo hi) fs n)++ [fs[n]] else (kept (inP lo hi) fs n):=kept_succ (inP lo hi) fs n hltx
     generalize fs[n]=f at c0 c1 c2 c3 c4 c5 hke
     obtain⟨fp,fq,fn,flo,fhi,fseq⟩:=f
     dsimp only at c0 c1 c2 c3 c4 c5
     have hiL:(n:Int)<(L:Int):=by omega
     have hi0':(0:Int)≤(n:Int):=by omega
     have hal:Below wr.heap.size wr (wr.alloc (.cells #[.string fp,.string fq,.int .i64 fn,.int .i64 flo,.int .i64 fhi,.int .i64 fseq] 63)):=(Below.refl _ _).alloc (Nat.le_refl _) _
     have hbA:Below w.heap.size w (wr.alloc (.cells #[.string fp,.string fq,.int .i64 fn,.int .i64 flo,.int .i64 fhi,.int .i64 fseq] 63)):=hb.alloc hb.size _
     clear hc hltx
     have split8:((flo<lo∧hi<fhi∧lo≤hi)∨(flo<lo∧hi<fhi∧¬lo≤hi))∨((flo<lo∧¬hi<fhi∧lo≤fhi)∨(flo<lo∧¬hi<fhi∧¬lo≤fhi))∨((¬flo<lo∧hi<fhi∧flo≤hi)∨(¬flo<lo∧hi<fhi∧¬flo≤hi))∨((¬flo<lo∧¬hi<fhi∧flo≤fhi)∨(¬flo<lo∧¬hi<fhi∧¬flo≤fhi)):=by omega
     rcases split8 with(hs8 | hs8) | (hs8 | hs8) | (hs8 | hs8) | (hs8 | hs8)<;>obtain ⟨z1,z2,z3⟩:=hs8
     · have q1:flo<lo:=by omega
       have q2:hi<fhi:=by omega
       have q3:lo≤hi:=by omega
       have HKE:Hid ((kept (inP lo hi) fs (n+1))=(kept (inP lo hi) fs n)++ [(fp,fq,fn,flo,fhi,fseq)]):=by
         show _=_
         rw[hke,if_pos (by simp[inP,q1,q2,q3])]
       clear hke
       go_wp2_with (at_builtin;refine wpList_append_own _ rfl _ _ 23 rfl w.heap.size 63 i0 (.agg #[.string ⟨#[]⟩,.string ⟨#[]⟩,.int .i64 0,.int .i64 0,.int .i64 0,.int .i64 0]) 6 64 Tryz.underlying23 hi0 hz0 hs0 hby0 rfl (by decide) u7 (kept (inP lo hi) fs n).length (flatF (kept (inP lo hi) fs n)) rfl ?qc0 ⟨wr.heap.size,0,none⟩ 1 1 (encF (fp,fq,fn,flo,fhi,fseq)) rfl ?qc1 ?qc2 ?qc3 ?qc4 ?qc5 ?qc6 ?_)
       case qc0=>exact own_below OW.out hal
       case qc1=>rfl
       case qc2=>first | exact cells6 _ _ | exact fun j u hu=>hu
       case qc3=>exact encF_one _
       case qc4=>have:=HKL.out;unfold maxLen;omega
       case qc5=>have:=HKL.out;omega
       case qc6=>first | exact hbA.size | (have:=hb.size;omega)
       intro v' w4 hown4 hgrow hnil
       have hbC:Below w.heap.size w w4:=hbA.grown hgrow hbA.size (fun k hk=>by
         rcases OW.out.2 with⟨e,_⟩|⟨g',cap',cur,e,hg',_⟩
         · rw[e]at hk;simp[Value.ownBlock]at hk
         · rw[e]at hk;simp[Value.ownBlock]at hk;omega)
       have OW4:Hid (w4.ownsRow w.heap.size 63 6 v' ((kept (inP lo hi) fs n).length+1) (flatF (kept (inP lo hi) fs n)++encF (fp,fq,fn,flo,fhi,fseq))):=hown4
       clear hown4 hnil hgrow
       go_wp2
       go_roundw
       case rel=>exact ⟨n+1,by omega,by go_num,hbC,by rw[HKE.out,List.length_append,flatF_append];simpa [flatF] using OW4.out⟩
       case measure=>simp [intOf];omega
     · have q1:flo<lo:=by omega
       have q2:hi<fhi:=by omega
       have q3:¬lo≤hi:=by omega
       have HKE:Hid ((kept (inP lo hi) fs (n+1))=(kept (inP lo hi) fs n)):=by
         show _=_
         rw[hke,if_neg (by simp[inP,q1,q2,q3])]
       clear hke hal hbA
       go_wp2
       go_roundw
       case rel=>exact ⟨n+1,by omega,by go_num,hb,by rw[HKE.out];exact OW.out⟩
       case measure=>simp [intOf];omega
     · have q1:flo<lo:=by omega
       have q2:¬hi<fhi:=by omega
       have q3:lo≤fhi:=by omega
       have HKE:Hid ((kept (inP lo hi) fs (n+1))=(kept (inP lo hi) fs n)++ [(fp,fq,fn,flo,fhi,fseq)]):=by
         show _=_
         rw[hke,if_pos (by simp[inP,q1,q2,q3])]
       clear hke
       go_wp2_with (at_builtin;refine wpList_append_own _ rfl _ _ 23 rfl w.heap.size 63 i0 (.agg #[.string ⟨#[]⟩,.string ⟨#[]⟩,.int .i64 0,.int .i64 0,.int .i64 0,.int .i64 0]) 6 64 Tryz.underlying23 hi0 hz0 hs0 hby0 rfl (by decide) u7 (kept (inP lo hi) fs n).length (flatF (kept (inP lo hi) fs n)) rfl ?qc0 ⟨wr.heap.size,0,none⟩ 1 1 (encF (fp,fq,fn,flo,fhi,fseq)) rfl ?qc1 ?qc2 ?qc3 ?qc4 ?qc5 ?qc6 ?_)
       case qc0=>exact own_below OW.out hal
       case qc1=>rfl
       case qc2=>first | exact cells6 _ _ | exact fun j u hu=>hu
       case qc3=>exact encF_one _
       case qc4=>have:=HKL.out;unfold maxLen;omega
       case qc5=>have:=HKL.out;omega
       case qc6=>first | exact hbA.size | (have:=hb.size;omega)
       intro v' w4 hown4 hgrow hnil
       have hbC:Below w.heap.size w w4:=hbA.grown hgrow hbA.size (fun k hk=>by
         rcases OW.out.2 with⟨e,_⟩|⟨g',cap',cur,e,hg',_⟩
         · rw[e]at hk;simp[Value.ownBlock]at hk
         · rw[e]at hk;simp[Value.ownBlock]at hk;omega)
       have OW4:Hid (w4.ownsRow w.heap.size 63 6 v' ((kept (inP lo hi) fs n).length+1) (flatF (kept (inP lo hi) fs n)++encF (fp,fq,fn,flo,fhi,fseq))):=hown4
       clear hown4 hnil hgrow
       go_wp2
       go_roundw
       case rel=>exact ⟨n+1,by omega,by go_num,hbC,by rw[HKE.out,List.length_append,flatF_append];simpa [flatF] using OW4.out⟩
       case measure=>simp [intOf];omega
     · have q1:flo<lo:=by omega
       have q2:¬hi<fhi:=by omega
       have q3:¬lo≤fhi:=by omega
       have HKE:Hid ((kept (inP lo hi) fs (n+1))=(kept (inP lo hi) fs n)):=by
         show _=_
         rw[hke,if_neg (by simp[inP,q1,q2,q3])]
       clear hke hal hbA
       go_wp2
       go_roundw
       case rel=>exact ⟨n+1,by omega,by go_num,hb,by rw[HKE.out];exact OW.out⟩
       case measure=>simp [intOf];omega
     · have q1:¬flo<lo:=by omega
       have q2:hi<fhi:=by omega
       have q3:flo≤hi:=by omega
       have HKE:Hid ((kept (inP lo hi) fs (n+1))=(kept (inP lo hi) fs n)++ [(fp,fq,fn,flo,fhi,fseq)]):=by
         show _=_
         rw[hke,if_pos (by simp[inP,q1,q2,q3])]
       clear hke
       go_wp2_with (at_builtin;refine wpList_append_own _ rfl _ _ 23 rfl w.heap.size 63 i0 (.agg #[.string ⟨#[]⟩,.string ⟨#[]⟩,.int .i64 0,.int .i64 0,.int .i64 0,.int .i64 0]) 6 64 Tryz.underlying23 hi0 hz0 hs0 hby0 rfl (by decide) u7 (kept (inP lo hi) fs n).length (flatF (kept (inP lo hi) fs n)) rfl ?qc0 ⟨wr.heap.size,0,none⟩ 1 1 (encF (fp,fq,fn,flo,fhi,fseq)) rfl ?qc1 ?qc2 ?qc3 ?qc4 ?qc5 ?qc6 ?_)
       case qc0=>exact own_below OW.out hal
       case qc1=>rfl
       case qc2=>first | exact cells6 _ _ | exact fun j u hu=>hu
       case qc3=>exact encF_one _
       case qc4=>have:=HKL.out;unfold maxLen;omega
       case qc5=>have:=HKL.out;omega
       case qc6=>first | exact hbA.size | (have:=hb.size;omega)
       intro v' w4 hown4 hgrow hnil
       have hbC:Below w.heap.size w w4:=hbA.grown hgrow hbA.size (fun k hk=>by
         rcases OW.out.2 with⟨e,_⟩|⟨g',cap',cur,e,hg',_⟩
         · rw[e]at hk;simp[Value.ownBlock]at hk
         · rw[e]at hk;simp[Value.ownBlock]at hk;omega)
       have OW4:Hid (w4.ownsRow w.heap.size 63 6 v' ((kept (inP lo hi) fs n).length+1) (flatF (kept (inP lo hi) fs n)++encF (fp,fq,fn,flo,fhi,fseq))):=hown4
       clear hown4 hnil hgrow
       go_wp2
       go_roundw
       case rel=>exact ⟨n+1,by omega,by go_num,hbC,by rw[HKE.out,List.length_append,flatF_append];simpa [flatF] using OW4.out⟩
       case measure=>simp [intOf];omega
     · have q1:¬flo<lo:=by omega
       have q2:hi<fhi:=by omega
       have q3:¬flo≤hi:=by omega
       have HKE:Hid ((kept (inP lo hi) fs (n+1))=(kept (inP lo hi) fs n)):=by
         show _=_
         rw[hke,if_neg (by simp[inP,q1,q2,q3])]
       clear hke hal hbA
       go_wp2
       go_roundw
       case rel=>exact ⟨n+1,by omega,by go_num,hb,by rw[HKE.out];exact OW.out⟩
       case measure=>simp [intOf];omega
     · have q1:¬flo<lo:=by omega
       have q2:¬hi<fhi:=by omega
       have q3:flo≤fhi:=by omega
       have HKE:Hid ((kept (inP lo hi) fs (n+1))=(kept (inP lo hi) fs n)++ [(fp,fq,fn,flo,fhi,fseq)]):=by
         show _=_
         rw[hke,if_pos (by simp[inP,q1,q2,q3])]
       clear hke
       go_wp2_with (at_builtin;refine wpList_append_own _ rfl _ _ 23 rfl w.heap.size 63 i0 (.agg #[.string ⟨#[]⟩,.string ⟨#[]⟩,.int .i64 0,.int .i64 0,.int .i64 0,.int .i64 0]) 6 64 Tryz.underlying23 hi0 hz0 hs0 hby0 rfl (by decide) u7 (kept (inP lo hi) fs n).length (flatF (kept (inP lo hi) fs n)) rfl ?qc0 ⟨wr.heap.size,0,none⟩ 1 1 (encF (fp,fq,fn,flo,fhi,fseq)) rfl ?qc1 ?qc2 ?qc3 ?qc4 ?qc5 ?qc6 ?_)
       case qc0=>exact own_below OW.out hal
       case qc1=>rfl
       case qc2=>first | exact cells6 _ _ | exact fun j u hu=>hu
       case qc3=>exact encF_one _
       case qc4=>have:=HKL.out;unfold maxLen;omega
       case qc5=>have:=HKL.out;omega
       case qc6=>first | exact hbA.size | (have:=hb.size;omega)
       intro v' w4 hown4 hgrow hnil
       have hbC:Below w.heap.size w w4:=hbA.grown hgrow hbA.size (fun k hk=>by
         rcases OW.out.2 with⟨e,_⟩|⟨g',cap',cur,e,hg',_⟩
         · rw[e]at hk;simp[Value.ownBlock]at hk
         · rw[e]at hk;simp[Value.ownBlock]at hk;omega)
       have OW4:Hid (w4.ownsRow w.heap.size 63 6 v' ((kept (inP lo hi) fs n).length+1) (flatF (kept (inP lo hi) fs n)++encF (fp,fq,fn,flo,fhi,fseq))):=hown4
       clear hown4 hnil hgrow
       go_wp2
       go_roundw
       case rel=>exact ⟨n+1,by omega,by go_num,hbC,by rw[HKE.out,List.length_append,flatF_append];simpa [flatF] using OW4.out⟩
       case measure=>simp [intOf];omega
     · have q1:¬flo<lo:=by omega
       have q2:¬hi<fhi:=by omega
       have q3:¬flo≤fhi:=by omega
       have HKE:Hid ((kept (inP lo hi) fs (n+1))=(kept (inP lo hi) fs n)):=by
         show _=_
         rw[hke,if_neg (by simp[inP,q1,q2,q3])]
       clear hke hal hbA
       go_wp2
       go_roundw
       case rel=>exact ⟨n+1,by omega,by go_num,hb,by rw[HKE.out];exact OW.out⟩
       case measure=>simp [intOf];omega
   · obtain rfl:n=L:=by omega
     have HKA:Hid (FlsAt wr u7 (fs.filter (inP lo hi))):=by
       have h':=(flsAt_of_own OW.out).1
       rw[←HX.out,kept_all]at h'
       exact h'
     go_wp2
     go_ret
     exact⟨_,rfl,HKA.out,hb⟩
set_option maxRecDepth 100000 in
set_option maxHeartbeats 2000000 in
theorem readRow_any (s:ByteArray) (w:World) (hs:s.size<4294967281) :
   Calls Tryz.prog 104 #[.string s] w fun e w'=>e= .returned (.tuple #[rowV (readO s.data.toList).1,.int .i64 (readO s.data.toList).2])∧Below w.heap.size w w':=by
 generalize hR:readO s.data.toList=R
 have HR:Hid (readO s.data.toList=R):=hR
 clear hR
 have hb0:Below w.heap.size w (w.alloc (.cells #[.string ⟨#[]⟩,.int .i64 0,.int .i64 0] 54)):=(Below.refl _ _).alloc (Nat.le_refl _) _
 go_enter Tryz.func104,Tryz.ntmps104
 go_wp2_with fail
 refine(cutText_any s _ hs).mono ?_
 rintro e w1 ⟨v,ts,rfl,hT,hmap,hb1⟩
 obtain⟨b,cap,rfl,hcap,hcells⟩:=hT
 have z0:w1.cell? ⟨w.heap.size,0,none⟩=some (.string ⟨#[]⟩):=below_keep hb1 (by simp)
 have z1:w1.cell? ⟨w.heap.size,1,none⟩=some (.int .i64 0):=below_keep hb1 (by simp)
 have z2:w1.cell? ⟨w.heap.size,2,none⟩=some (.int .i64 0):=below_keep hb1 (by simp)
 have fz:∀o,w1.frozen? ⟨w.heap.size,o,none⟩=false:=fun o=>by rw[hb1.frozen (p:=⟨w.heap.size,o,none⟩) (by simp)];simp
 have hB1:Below w.heap.size w w1:=hb0.trans (hb1.mono hb0.size)
 have hlen:ts.length=(words s.data.toList).length:=by rw[←hmap,List.length_map]
 have hlenW:=words_len s.data.toList
 by_cases h3:ts.length=3
 · obtain⟨P,K,V,rfl⟩:∃P K V,ts= [P,K,V]:=by
     match ts,h3 with
     | [P,K,V],_=>exact ⟨P,K,V,rfl⟩
   simp only[List.map_cons,List.map_nil]at hmap
   have c0:w1.cell? ⟨b,0,none⟩=some (.string P):=hcells 0 (by simp)
   have c1:w1.cell? ⟨b,1,none⟩=some (.string K):=hcells 1 (by simp)
   have c2:w1.cell? ⟨b,2,none⟩=some (.string V):=hcells 2 (by simp)
   have hsK:K.size≤maxLen:=by
     have:=hlenW K.data.toList (by rw[←hmap];simp)
     rw[size_list,size_list]at this
     unfold maxLen;omega
   have hsV:V.size≤maxLen:=by
     have:=hlenW V.data.toList (by rw[←hmap];simp)
     rw[size_list,size_list]at this
     unfold maxLen;omega
   have hsP:P.size≤maxLen:=by
     have:=hlenW P.data.toList (by rw[←hmap];simp)
     rw[size_list,size_list]at this
     unfold maxLen;omega
   have hr:=readO_three hmap.symm
   rw[bytesOf_data]at hr
   have HRR:=HR.out.symm.trans hr
   clear HR hr hmap hlen hlenW hcells h3
   simp only[List.length_cons,List.length_nil,Nat.zero_add,Nat.reduceAdd]at hcap ⊢
   have HE:Hid (R=match numO K.data.toList,numO V.data.toList with
     | some a,some b=>if rowE (P,a,b)=0 then ((P,a,b),0) else ((bytesOf [],0,0),rowE (P,a,b))
     | _,_=>((bytesOf [],0,0),1)):=HRR
   clear HRR
   go_wp2_with fail
   refine(numbersOf_any b 1 _ K V w1 c1 c2 hsK hsV).mono ?_
   rintro e w2 ⟨hN,hb2⟩
   have hB2:Below w.heap.size w w2:=hB1.trans (hb2.mono hB1.size)
   have y0:=below_keep hb2 z0
   have y1:=below_keep hb2 z1
   have y2:=below_keep hb2 z2
   have d0:=below_keep hb2 c0
   have hz1:w.heap.size<w1.heap.size:=cell_lt z0
   have fy:∀o,w2.frozen? ⟨w.heap.size,o,none⟩=false:=fun o=>by rw[hb2.frozen (p:=⟨w.heap.size,o,none⟩) hz1];exact fz o
   have hz2:w.heap.size<w2.heap.size:=cell_lt y0
   clear z0 z1 z2 fz c0 c1 c2 hz1
   have HE':=HE.out
   clear HE
   generalize numO K.data.toList=nk at hN HE'
   generalize numO V.data.toList=nv at hN HE'
   by_cases hgood:∃x y,nk=some x∧nv=some y
   · obtain⟨x,y,rfl,rfl⟩:=hgood
     obtain⟨g,c,rfl,k0,k1⟩:=hN
     dsimp only at HE'
     have hbR:Below w2.heap.size w2 (w2.alloc (.cells #[.string P,.int .i64 x,.int .i64 y] 54)).drew:=((Below.refl _ _).alloc (Nat.le_refl _) _).drew
     have hBR:Below w.heap.size w (w2.alloc (.cells #[.string P,.int .i64 x,.int .i64 y] 54)).drew:=hB2.trans (hbR.mono hB2.size)
     have hck:=rowError_any (P,x,y) ((w2.alloc (.cells #[.string P,.int .i64 x,.int .i64 y] 54)).drew) hsP
     dsimp only at hck
     have q0:=below_keep hbR y0
     have q1:=below_keep hbR y1
     have q2:=below_keep hbR y2
     have r0:(w2.alloc (.cells #[.string P,.int .i64 x,.int .i64 y] 54)).drew.cell? ⟨w2.heap.size,0,none⟩=some (.string P):=by simp
     have r1:(w2.alloc (.cells #[.string P,.int .i64 x,.int .i64 y] 54)).drew.cell? ⟨w2.heap.size,1,none⟩=some (.int .i64 x):=by simp
     have r2:(w2.alloc (.cells #[.string P,.int .i64 x,.int .i64 y] 54)).drew.cell? ⟨w2.heap.size,2,none⟩=some (.int .i64 y):=by simp
     have hbZ:Below w2.heap.size w2 (w2.alloc (.cells #[.string ⟨#[]⟩,.int .i64 0,.int .i64 0] 54)):=(Below.refl _ _).alloc (Nat.le_refl _) _
     have j0:=below_keep hbZ k0
     have j1:=below_keep hbZ k1
     have j2:=below_keep hbZ d0
     have l0:=below_keep hbZ.drew k0
     have l1:=below_keep hbZ.drew k1
     have l2:=below_keep hbZ.drew d0
     have m0:=below_keep (Below.refl w2.heap.size w2).drew k0
     have m1:=below_keep (Below.refl w2.heap.size w2).drew k1
     have m2:=below_keep (Below.refl w2.heap.size w2).drew d0
     by_cases he:rowE (P,x,y)=0
     · rw[if_pos he]at HE'
       subst HE'
       rw[he]at hck
       clear he
       go_wp2
       go_region
       all_goals go_wp2_with fail
       refine hck.mono ?_
       rintro e w5 ⟨rfl,hb5⟩
       have g0:=below_keep hb5 q0
       have g1:=below_keep hb5 q1
       have g2:=below_keep hb5 q2
       have u0:=below_keep hb5 r0
       have u1:=below_keep hb5 r1
       have u2:=below_keep hb5 r2
       have hB5:Below w.heap.size w w5:=hBR.trans (hb5.mono hBR.size)
       have f5:∀o,w5.frozen? ⟨w.heap.size,o,none⟩=false:=fun o=>by
         rw[hb5.frozen (p:=⟨w.heap.size,o,none⟩) (by simp;omega),hbR.frozen (p:=⟨w.heap.size,o,none⟩) hz2];exact fy o
       clear hck q0 q1 q2 r0 r1 r2 y0 y1 y2 fy
       go_wp2
       refine bodyPost_ret (v:=.tuple #[.agg #[.string P,.int .i64 x,.int .i64 y],.int .i64 0]) (by simp[results,Tryz.results104,go_sem,g0,g1,g2]) rfl ⟨rfl,?_⟩
       exact((hB5.setCell (by simp) _).setCell (by simp) _).setCell (by simp) _
     · rw[if_neg he]at HE'
       generalize rowE (P,x,y)=E at he hck HE'
       subst HE'
       have hE:(0:Int)<(E:Int):=by omega
       clear he
       go_wp2
       go_region
       all_goals go_wp2_with fail
       refine hck.mono ?_
       rintro e w5 ⟨rfl,hb5⟩
       have g0:=below_keep hb5 q0
       have g1:=below_keep hb5 q1
       have g2:=below_keep hb5 q2
       have hB5:Below w.heap.size w w5:=hBR.trans (hb5.mono hBR.size)
       have f5:∀o,w5.frozen? ⟨w.heap.size,o,none⟩=false:=fun o=>by
         rw[hb5.frozen (p:=⟨w.heap.size,o,none⟩) (by simp;omega),hbR.frozen (p:=⟨w.heap.size,o,none⟩) hz2];exact fy o
       have s0:=setCell_self g0
       have s1:=setCell_self g1
       have s2:=setCell_self g2
       clear hck q0 q1 q2 r0 r1 r2 y0 y1 y2 fy
       go_wp2
       exact bodyPost_ret (v:=.tuple #[.agg #[.string ⟨#[]⟩,.int .i64 0,.int .i64 0],.int .i64 E]) (by simp[results,Tryz.results104,go_sem,g0,g1,g2]) rfl ⟨rfl,hB5⟩
   · have hbadE:e= .returned (.tuple #[.slice none 0 0,.bool false]):=by
       cases nk with
       | none=>cases nv<;>exact hN
       | some x =>
         cases nv with
         | none=>exact hN
         | some y=>exact absurd ⟨x,y,rfl,rfl⟩ hgood
     have hbadR:R=((bytesOf [],0,0),1):=by
       cases nk with
       | none=>cases nv<;>exact HE'
       | some x =>
         cases nv with
         | none=>exact HE'
         | some y=>exact absurd ⟨x,y,rfl,rfl⟩ hgood
     subst hbadE hbadR
     clear HE' hN hgood
     have s0:=setCell_self y0
     have s1:=setCell_self y1
     have s2:=setCell_self y2
     go_wp2
     exact bodyPost_ret (v:=.tuple #[.agg #[.string ⟨#[]⟩,.int .i64 0,.int .i64 0],.int .i64 1]) (by simp[results,Tryz.results104,go_sem,y0,y1,y2]) rfl ⟨rfl,hB2⟩
 · have hr:=readO_other (l:=s.data.toList) (by omega)
   have hRR:=HR.out.symm.trans hr
   subst hRR
   generalize ts.length=L at h3 hcap ⊢
   have hne:¬(L:Int)=3:=by omega
   clear hr hmap hlen hlenW hcells HR h3
   have s0:=setCell_self z0
   have s1:=setCell_self z1
   have s2:=setCell_self z2
   go_wp2
   exact bodyPost_ret (v:=.tuple #[.agg #[.string ⟨#[]⟩,.int .i64 0,.int .i64 0],.int .i64 1]) (by simp[results,Tryz.results104,go_sem,z0,z1,z2]) rfl ⟨rfl,hB1⟩
theorem sort_insert (xs O:List Rw) (x:Rw) (k:Nat) (hO:O=sortR xs) (hk:k≤O.length)
   (h1:∀j (h:j<O.length),k≤j→ltOf cfR x O[j]=true) (h2:∀(h:k-1<O.length),0<k→ltOf cfR x O[k-1]=false) :
   O.take k++x :: O.drop k=sortR (xs++ [x]):=by
 have hs:O.Pairwise fun x y=>(!(ltOf cfR) y x)=true:=by rw[hO];exact sortR_sorted xs
 have hpr:=List.pairwise_iff_getElem.1 hs
 refine List.Perm.eq_of_pairwise (le:=fun x y=>(!(ltOf cfR) y x)=true) (fun a b _ _ h1 h2=>?_) ?_ (sortR_sorted _) ?_
 · simp only[Bool.not_eq_true']at h1 h2
   exact totR a b h2 h1
 · have hs':=hs
   rw[←List.take_append_drop k O,List.pairwise_append]at hs'
   rw[List.pairwise_append]
   refine⟨hs'.1,?_,?_⟩
   · rw[List.pairwise_cons]
     refine⟨fun b hb=>?_,hs'.2.1⟩
     obtain⟨j,hj,rfl⟩:=List.mem_iff_getElem.1 hb
     rw[List.getElem_drop]
     have hj':k+j<O.length:=by rw[List.length_drop]at hj;omega
     have h:=h1 (k+j) hj' (by omega)
     cases h':ltOf cfR O[k+j] x
     · rfl
     · have:=swoR.trans _ _ _ h h'
       rw[swoR.irrefl]at this
       cases this
   · intro a ha b hb
     rw[List.mem_cons]at hb
     rcases hb with rfl | hb
     · obtain⟨i,hi,rfl⟩:=List.mem_iff_getElem.1 ha
       rw[List.getElem_take]
       rw[List.length_take]at hi
       have hl:=h2 (by omega) (by omega)
       rcases Nat.lt_or_ge i (k-1) with h' | h'
       · have:=hpr i (k-1) (by omega) (by omega) h'
         simp only[Bool.not_eq_true']at this ⊢
         exact swoR.ntrans _ _ _ hl this
       · obtain rfl:i=k-1:=by omega
         simp only[Bool.not_eq_true']
         exact hl
     · exact hs'.2.2 a ha b hb
 · have p1:(O.take k++x :: O.drop k).Perm (x :: (O.take k++O.drop k)):=List.perm_middle
   rw[List.take_append_drop]at p1
   refine p1.trans ?_
   have p2:(x :: O).Perm (x :: xs):=by rw[hO];exact(sortR_perm xs).cons x
   refine p2.trans ?_
   refine List.Perm.trans ?_ (sortR_perm _).symm
   exact(List.perm_append_singleton x xs).symm
theorem sort_nil:sortR []= []:=by simp[sortR]
end Go.Proofs.YtdhkdjlgmbejnaaGreatDoor
