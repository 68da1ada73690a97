/- By an AI agent. -/
import Derived.Test.YtdhkdjlgmbejnaaGreatDoorRefIns
import Derived.LaidEql
import Derived.Stop.Asserts
import Derived.RowKitTokens
namespace Go.Proofs.YtdhkdjlgmbejnaaGreatDoor
open Go.RowKit Go.Extern.Stop Go.Stop Go.Extern Go.Sort Go.Shelf Go.Lib
theorem flat_take {O:List Rw} {k j:Nat} {u:Value} (h:(flatR (O.take k))[j]? =some u):(flatR O)[j]? =some u:=by
 have e:flatR O=flatR (O.take k)++flatR (O.drop k):=by rw[←flat_append,List.take_append_drop]
 rw[e]
 rcases Nat.lt_or_ge j (flatR (O.take k)).length with h' | h'
 · rw[List.getElem?_append_left h'];exact h
 · rw[List.getElem?_eq_none h']at h;cases h
theorem flat_drop {O:List Rw} {k j:Nat} {u:Value} (h:(flatR (O.drop k))[j]? =some u):(flatR O)[k*3+j]? =some u:=by
 have hk:k≤O.length:=by
   rcases Nat.lt_or_ge O.length k with h' | h'
   · rw[List.drop_of_length_le (by omega)]at h;simp[flatR]at h
   · exact h'
 have e:flatR O=flatR (O.take k)++flatR (O.drop k):=by rw[←flat_append,List.take_append_drop]
 have hl:(flatR (O.take k)).length=k*3:=by rw[flat_len,List.length_take,Nat.min_eq_left hk]
 rw[e,List.getElem?_append_right (by omega),hl,Nat.add_sub_cancel_left]
 exact h
theorem own_cast {w:World} {B:Nat} {e:TypeId} {s:Nat} {v:Value} {n n':Nat} {xs ys:List Value} (h:w.ownsRow B e s v n xs) (h1:n=n') (h2:xs=ys):w.ownsRow B e s v n' ys:=by subst h1;subst h2;exact h
theorem flat_cons (x:Rw) (xs:List Rw):flatR (x :: xs)=encR x++flatR xs:=by simp[flatR]
theorem own_block {w:World} {base:Nat} {e:TypeId} {size:Nat} {v:Value} {n:Nat} {xs:List Value} (h:w.ownsRow base e size v n xs) {k:Nat} (hk:v.ownBlock=some k):base≤k:=by
 rcases h.2 with⟨e,_⟩|⟨g',cap',cur,e,hg',_⟩
 · rw[e]at hk;simp[Value.ownBlock]at hk
 · rw[e]at hk;simp[Value.ownBlock]at hk;omega
set_option maxRecDepth 100000 in
set_option maxHeartbeats 2000000 in
theorem sortRows_any (b o cap:Nat) (xs:List Rw) (w:World) (hx:RowCells w b o xs) (hl:xs.length≤20000) :
   Calls Tryz.prog 56 #[.slice (some ⟨b,o,none⟩) xs.length cap] w fun e w'=> ∃v',e= .returned v'∧RowsAt w' v' (sortR xs)∧Below w.heap.size w w':=by
 obtain⟨i0,hi0,hz0,hs0,hby0⟩:=Tryz.rowInfo
 generalize hL:xs.length=L at hl ⊢
 have HX:Hid (xs.length=L):=hL
 clear hL
 go_enter Tryz.func56,Tryz.ntmps56
 go_wp2
 go_loopw [3,4] (fun out k wr=> ∃n:Nat,n≤L∧k= .int .i64 n∧Below w.heap.size w wr∧wr.ownsRow w.heap.size 54 3 out n (flatR (sortR (xs.take n)))) (fun _ k _=>L-(intOf k).toNat)
 case atStart=>exact ⟨0,by omega,rfl,Below.refl _ _,by simp[sort_nil,flatR];exact World.ownsRow_nil _ _ _ _⟩
 case round =>
   obtain⟨n,hn,rfl,hb,hown⟩:=hrel
   by_cases hlt:n<L
   · have hltx : n < xs.length:=by rw[HX.out];exact hlt
     obtain⟨h1,h2,h3⟩:=hx.below hb n hltx
     have hi:(n:Int)<(L:Int):=by omega
     have htk:xs.take (n+1)=xs.take n++ [xs[n]]:=by rw[List.take_append_getElem hltx]
     have hOl:(sortR (xs.take n)).length=n:=by rw[sortR_len,List.length_take];omega
     have hins:=fun k=>sort_insert (xs.take n) (sortR (xs.take n)) xs[n] k rfl
     rw[←htk]at hins
     have HNEXT:Hid (∀k,k≤(sortR (xs.take n)).length→(∀j (h:j<(sortR (xs.take n)).length),k≤j→ltOf cfR xs[n] (sortR (xs.take n))[j]=true)→(∀(h:k-1<(sortR (xs.take n)).length),0<k→ltOf cfR xs[n] (sortR (xs.take n))[k-1]=false)→(sortR (xs.take n)).take k++xs[n] :: (sortR (xs.take n)).drop k=sortR (xs.take (n+1))):=hins
     clear hins htk
     generalize xs[n]=x at h1 h2 h3 HNEXT
     generalize sortR (xs.take n)=O at hown hOl HNEXT
     generalize hOO:sortR (xs.take (n+1))=O' at HNEXT
     have HOO:Hid (sortR (xs.take (n+1))=O'):=hOO
     clear hOO
     obtain⟨xp,xk,xv⟩:=x
     obtain⟨hnO,hcs⟩:=own_cases hown
     have OW:Hid (wr.ownsRow w.heap.size 54 3 u3 n (flatR O)):=hown
     clear hown hx
     rcases hcs with⟨rfl,rfl⟩|⟨g,cp,rfl,hOc⟩
     · have N0:Hid (n=0):=by simpa [Hid] using hOl.symm
       have hO':O'= [(xp,xk,xv)]:=by
         have:=HNEXT.out 0 (by simp) (by intro j h;simp at h) (by intro h;simp at h)
         simpa using this.symm
       subst hO'
       clear HNEXT hOl OW
       have hal:Below wr.heap.size wr (wr.alloc (.cells #[.string xp,.int .i64 xk,.int .i64 xv] 54)):=(Below.refl _ _).alloc (Nat.le_refl _) _
       have hbA:Below w.heap.size w (wr.alloc (.cells #[.string xp,.int .i64 xk,.int .i64 xv] 54)):=hb.alloc hb.size _
       have n0:n=0:=N0.out
       have e1:wr.cell? ⟨b,o,none⟩=some (.string xp):=by rw[n0]at h1;simpa using h1
       have e2:wr.cell? ⟨b,o+1,none⟩=some (.int .i64 xk):=by rw[n0]at h2;simpa using h2
       have e3:wr.cell? ⟨b,o+2,none⟩=some (.int .i64 xv):=by rw[n0]at h3;simpa using h3
       clear n0 h1 h2 h3
       go_wp2
       refine wp_loop_rounds 1 ?_
       rw[rounds_succ]
       go_wp2_with (first
         | (at_builtin;refine wpList_append_nothing rfl _ _ 33 rfl _ rfl rfl (fun ty W=>append_nothing none 0 0 ty W (Nat.le_refl _)) ?_)
         | (at_builtin;refine wpList_append_own _ rfl _ _ 33 rfl w.heap.size 54 i0 (.agg #[.string ⟨#[]⟩,.int .i64 0,.int .i64 0]) 3 32 Tryz.underlying33 hi0 hz0 hs0 hby0 rfl (by decide) (.slice none 0 0) 0 [] rfl ?qc0 ⟨wr.heap.size,0,none⟩ 1 1 (encR (xp,xk,xv)) rfl ?qc1 ?qc2 ?qc3 ?qc4 ?qc5 ?qc6 ?_))
       case qc0=>exact World.ownsRow_nil _ _ _ _
       case qc1=>rfl
       case qc2 =>
         intro j u hj
         rw[Addr.add_lit,Nat.zero_add]
         exact cells_three wr xp xk xv j u hj
       case qc3=>exact encR_one _
       case qc4=>unfold maxLen;omega
       case qc5=>omega
       case qc6=>exact hbA.size
       intro v' w4 hown4 hgrow hnil
       have hbC:Below w.heap.size w w4:=hbA.grown hgrow hbA.size (fun k hk=>by simp[Value.ownBlock]at hk)
       obtain⟨p4,c4,rfl⟩:∃p4 c4,v'= .slice p4 1 c4:=by
         rcases hown4.2 with⟨_,e⟩|⟨g',cap',cur,e,_⟩
         · omega
         · exact⟨_,_,e⟩
       have hc4:=own_cap hown4
       have OW4:Hid (w4.ownsRow w.heap.size 54 3 (.slice p4 1 c4) (0+1) ([]++encR (xp,xk,xv))):=hown4
       clear hown4 hnil hgrow
       go_wp2_with (at_builtin;refine wpList_append_nothing rfl _ _ 33 rfl _ rfl rfl (fun ty W=>append_nothing p4 1 c4 ty W hc4) ?_)
       go_roundw
       case rel=>exact ⟨n+1,by omega,by rw[N0.out];go_num,hbC,by rw[HOO.out,N0.out,flat_single];exact OW4.out⟩
       case measure=>have:=N0.out;simp[intOf];omega
     · clear hnO
       have hcp:O.length≤cp:=own_cap OW.out
       rw[hOl]at hcp ⊢
       have hgl:g<wr.heap.size:=by
         rcases Nat.lt_or_ge 0 n with h' | h'
         · exact cell_lt (hOc 0 (by omega)).1
         · rcases OW.out.2 with⟨e,_⟩|⟨g',cap',cur,e,_,hg,_⟩
           · cases e
           · injection e with e1 e2 e3
             injection e1 with e1
             injection e1 with e1
             subst e1
             rcases Nat.lt_or_ge g wr.heap.size with h'' | h''
             · exact h''
             · rw[Array.getElem?_eq_none h'']at hg;cases hg
       have OC:Hid (RowCells wr g 0 O):=hOc
       have OL:Hid (O.length=n):=hOl
       have hcp':n≤cp:=by omega
       clear hOc hOl hcp
       generalize wr=W0 at *
       go_wp2
       go_loopw [5] (fun at_ wi=> ∃k:Nat,k≤n∧at_= .int .i64 k∧Below W0.heap.size W0 wi∧∀j (h:j<O.length),k≤j→ltOf cfR (xp,xk,xv) O[j]=true) (fun at_ _=>(intOf at_).toNat)
       case atStart=>exact ⟨n,by omega,rfl,Below.refl _ _,fun j h h'=>absurd h (by rw[OL.out];omega)⟩
       case round =>
         obtain⟨k,hk,rfl,hbi,hall⟩:=hrel
         have HA:Hid (∀j (h:j<O.length),k≤j→ltOf cfR (xp,xk,xv) O[j]=true):=hall
         clear hall
         have d1:=below_keep hbi h1
         have d2:=below_keep hbi h2
         have d3:=below_keep hbi h3
         by_cases hk0:0<k
         · obtain ⟨m,rfl⟩:∃m,k=m+1:=⟨k-1,by omega⟩
           have hkl:m<O.length:=by rw[OL.out];omega
           obtain⟨c1,c2,c3⟩:=OC.out m hkl
           have p1:=below_keep hbi c1
           have p2:=below_keep hbi c2
           have p3:=below_keep hbi c3
           clear c1 c2 c3
           have hless:=fun W=>isLess_any (xp,xk,xv) O[m] W
           generalize hy:O[m]=y at p1 p2 p3 hless
           obtain⟨yp,yk,yv⟩:=y
           dsimp only at p1 p2 p3 hless
           simp only[Nat.zero_add]at p1 p2 p3
           have HY:Hid (O[m]=(yp,yk,yv)):=hy
           clear hy
           have hm:Tryz.prog.follows .mixedOrders=true:=by kernel_rfl
           have hi1:(0:Int)<(m:Int)+1:=by omega
           have hi3:(m:Int)<(n:Int):=by omega
           have hi4:(0:Int)≤(m:Int):=by omega
           have hi5:IntKind.i64.wrap (m:Int)=(m:Int):=IntWalk.i64_in _ (by omega)
           go_wp2
           refine still_tail 9 hm (by kernel_rfl) ?_
           simp only[List.take_succ_cons,List.take_zero,List.drop_succ_cons,List.drop_zero]
           still_step
           still_step
           still_step
           still_step
           still_step
           still_step
           still_step
           still_step
           still_step
           refine wpStill_nil ?_
           cases hlb:ltOf cfR (xp,xk,xv) (yp,yk,yv)
           · rw [hlb]at hless
             have HLB:Hid (ltOf cfR (xp,xk,xv) (yp,yk,yv)=false):=hlb
             clear hlb d1 d2 d3
             go_wp2_with (first
               | (go_at_call 105;refine(hless _).mono ?_;rintro e WT ⟨rfl,hb5⟩;have hbT:Below W0.heap.size W0 WT:=hbi.drew.trans (hb5.mono hbi.size);have hfin:=HNEXT.out (m+1) (by rw[OL.out];omega) (HA.out) (fun h _=>by simp only[Nat.add_sub_cancel];rw[HY.out];exact HLB.out);have FIN:Hid (O.take (m+1)++(xp,xk,xv) :: O.drop (m+1)=O'):=hfin;have CT:Hid (RowCells WT g 0 O):=OC.out.below hbT;have e1:=below_keep hbT h1;have e2:=below_keep hbT h2;have e3:=below_keep hbT h3;clear hfin HNEXT OC)
               | (at_builtin;refine wpList_append_own _ rfl _ _ 33 rfl WT.heap.size 54 i0 (.agg #[.string ⟨#[]⟩,.int .i64 0,.int .i64 0]) 3 32 Tryz.underlying33 hi0 hz0 hs0 hby0 rfl (by decide) (.slice none 0 0) 0 [] rfl ?qc0 ⟨g,0,none⟩ (m+1) cp (flatR (O.take (m+1))) rfl ?qc1 ?qc2 ?qc3 ?qc4 ?qc5 ?qc6 ?_))
             case qc0=>exact World.ownsRow_nil _ _ _ _
             case qc1=>rw [flat_len,List.length_take,OL.out,Nat.min_eq_left (by omega)]
             case qc2 =>
               intro j u hj
               rw[Addr.add_lit,Nat.zero_add]
               have:=cells_of_flat CT.out j u (flat_take hj)
               simpa using this
             case qc3=>exact flat_one _
             case qc4=>unfold maxLen;omega
             case qc5=>omega
             case qc6=>exact Nat.le_refl _
             intro v1 w1 hown1 hgrow1 hnil1
             have hB1:Below WT.heap.size WT w1:=(Below.refl _ _).grown hgrow1 (Nat.le_refl _) (fun k hk=>by simp[Value.ownBlock]at hk)
             have OW1:Hid (w1.ownsRow WT.heap.size 54 3 v1 (0+(m+1)) ([]++flatR (O.take (m+1)))):=own_cast hown1 (by omega) (by simp)
             clear hown1 hnil1 hgrow1
             have g1:=below_keep hB1 e1
             have g2:=below_keep hB1 e2
             have g3:=below_keep hB1 e3
             have hal:Below w1.heap.size w1 (w1.alloc (.cells #[.string xp,.int .i64 xk,.int .i64 xv] 54)):=(Below.refl _ _).alloc (Nat.le_refl _) _
             have hB2:Below WT.heap.size WT (w1.alloc (.cells #[.string xp,.int .i64 xk,.int .i64 xv] 54)):=hB1.alloc hB1.size _
             go_wp2_with (at_builtin;refine wpList_append_own _ rfl _ _ 33 rfl WT.heap.size 54 i0 (.agg #[.string ⟨#[]⟩,.int .i64 0,.int .i64 0]) 3 32 Tryz.underlying33 hi0 hz0 hs0 hby0 rfl (by decide) v1 (0+(m+1)) ([]++flatR (O.take (m+1))) rfl ?qc0 ⟨w1.heap.size,0,none⟩ 1 1 (encR (xp,xk,xv)) rfl ?qc1 ?qc2 ?qc3 ?qc4 ?qc5 ?qc6 ?_)
             case qc0=>exact own_below OW1.out hal
             case qc1=>rfl
             case qc2 =>
               intro j u hj
               rw[Addr.add_lit,Nat.zero_add]
               exact cells_three w1 xp xk xv j u hj
             case qc3=>exact encR_one _
             case qc4=>unfold maxLen;omega
             case qc5=>omega
             case qc6=>exact hB2.size
             intro v2 w2 hown2 hgrow2 hnil2
             have hB3:Below WT.heap.size WT w2:=hB2.grown hgrow2 hB2.size (fun k hk=>own_block OW1.out hk)
             have OW2:Hid (w2.ownsRow WT.heap.size 54 3 v2 (0+(m+1)+1) ([]++flatR (O.take (m+1))++encR (xp,xk,xv))):=own_cast hown2 (by omega) (by simp[flatR])
             clear hown2 hnil2 hgrow2
             have z1:((m+1:Nat):Int)≤(n:Int):=by omega
             have z2:((m+1:Nat):Int)≤(cp:Int):=by omega
             have CT2:Hid (RowCells w2 g 0 O):=CT.out.below hB3
             rcases Nat.lt_or_ge (m+1) cp with hcm | hcm
             · have hne:¬cp=m+1:=by omega
               go_wp2_with (at_builtin;refine wpList_append_own _ rfl _ _ 33 rfl WT.heap.size 54 i0 (.agg #[.string ⟨#[]⟩,.int .i64 0,.int .i64 0]) 3 32 Tryz.underlying33 hi0 hz0 hs0 hby0 rfl (by decide) v2 (0+(m+1)+1) ([]++flatR (O.take (m+1))++encR (xp,xk,xv)) rfl ?qc0 _ _ _ (flatR (O.drop (m+1))) rfl ?qc1 ?qc2 ?qc3 ?qc4 ?qc5 ?qc6 ?_)
               case qc0=>exact OW2.out
               case qc1=>have:=OL.out;rw[flat_len,List.length_drop];omega
               case qc2 =>
                 intro j u hj
                 rw[Addr.add_lit]
                 have:=cells_of_flat CT2.out _ u (flat_drop hj)
                 first
                   | exact absurd hj (by rw[List.drop_of_length_le (by have:=OL.out;omega)];simp[flatR])
                   | simpa using this
               case qc3=>exact flat_one _
               case qc4=>unfold maxLen;omega
               case qc5=>omega
               case qc6=>exact hB3.size
               intro v3 w3 hown3 hgrow3 hnil3
               have hB4:Below WT.heap.size WT w3:=hB3.grown hgrow3 hB3.size (fun k hk=>own_block OW2.out hk)
               have hbF:Below w.heap.size w w3:=by
                 have q:=hbT.trans (hB4.mono hbT.size)
                 exact hb.trans (q.mono hb.size)
               have hown5:w3.ownsRow w.heap.size 54 3 v3 (n+1) (flatR O'):=by
                 have q:=hown3.mono (Nat.le_trans hb.size hbT.size)
                 rw[←FIN.out,flat_append,flat_cons]
                 exact own_cast q (by omega) (by simp[flatR])
               have OW5:Hid (w3.ownsRow w.heap.size 54 3 v3 (n+1) (flatR O')):=hown5
               clear hown5 hown3 hnil3 hgrow3
               go_wp2
               go_roundw
               case rel=>exact ⟨n+1,by omega,by go_num,hbF,by rw[HOO.out];exact OW5.out⟩
               case measure=>simp [intOf];omega
             · have hcm2:cp=m+1:=by omega
               clear hcm
               go_wp2_with (at_builtin;refine wpList_append_own _ rfl _ _ 33 rfl WT.heap.size 54 i0 (.agg #[.string ⟨#[]⟩,.int .i64 0,.int .i64 0]) 3 32 Tryz.underlying33 hi0 hz0 hs0 hby0 rfl (by decide) v2 (0+(m+1)+1) ([]++flatR (O.take (m+1))++encR (xp,xk,xv)) rfl ?qc0 _ _ _ (flatR (O.drop (m+1))) rfl ?qc1 ?qc2 ?qc3 ?qc4 ?qc5 ?qc6 ?_)
               case qc0=>exact OW2.out
               case qc1=>have:=OL.out;rw[flat_len,List.length_drop];omega
               case qc2 =>
                 intro j u hj
                 rw[Addr.add_lit]
                 have:=cells_of_flat CT2.out _ u (flat_drop hj)
                 first
                   | exact absurd hj (by rw[List.drop_of_length_le (by have:=OL.out;omega)];simp[flatR])
                   | simpa using this
               case qc3=>exact flat_one _
               case qc4=>unfold maxLen;omega
               case qc5=>omega
               case qc6=>exact hB3.size
               intro v3 w3 hown3 hgrow3 hnil3
               have hB4:Below WT.heap.size WT w3:=hB3.grown hgrow3 hB3.size (fun k hk=>own_block OW2.out hk)
               have hbF:Below w.heap.size w w3:=by
                 have q:=hbT.trans (hB4.mono hbT.size)
                 exact hb.trans (q.mono hb.size)
               have hown5:w3.ownsRow w.heap.size 54 3 v3 (n+1) (flatR O'):=by
                 have q:=hown3.mono (Nat.le_trans hb.size hbT.size)
                 rw[←FIN.out,flat_append,flat_cons]
                 exact own_cast q (by omega) (by simp[flatR])
               have OW5:Hid (w3.ownsRow w.heap.size 54 3 v3 (n+1) (flatR O')):=hown5
               clear hown5 hown3 hnil3 hgrow3
               go_wp2
               go_roundw
               case rel=>exact ⟨n+1,by omega,by go_num,hbF,by rw[HOO.out];exact OW5.out⟩
               case measure=>simp [intOf];omega
           · rw [hlb]at hless
             go_wp2_with (go_at_call 105;refine(hless _).mono ?_;rintro e w5 ⟨rfl,hb5⟩)
             have hb9:Below W0.heap.size W0 w5:=hbi.drew.trans (hb5.mono hbi.size)
             go_roundw
             case rel=>exact ⟨m,by omega,by go_num,hb9,fun j h hj=>by
               rcases Nat.lt_or_ge m j with h' | h'
               · exact HA.out j h (by omega)
               · obtain rfl:j=m:=by omega
                 rw[HY.out];exact hlb⟩
             case measure=>simp [intOf]
         · obtain rfl:k=0:=by omega
           clear d1 d2 d3
           generalize wr=WT at *
           have hbT:Below W0.heap.size W0 WT:=hbi
           have hfin:=HNEXT.out (0) (by rw[OL.out];omega) (fun j h _=>HA.out j h (Nat.zero_le _)) (fun _ h=>absurd h (Nat.lt_irrefl _))
           have FIN:Hid (O.take (0)++(xp,xk,xv) :: O.drop (0)=O'):=hfin
           have CT:Hid (RowCells WT g 0 O):=OC.out.below hbT
           have e1:=below_keep hbT h1
           have e2:=below_keep hbT h2
           have e3:=below_keep hbT h3
           clear hfin HNEXT OC
           go_wp2_with (at_builtin;refine wpList_append_own _ rfl _ _ 33 rfl WT.heap.size 54 i0 (.agg #[.string ⟨#[]⟩,.int .i64 0,.int .i64 0]) 3 32 Tryz.underlying33 hi0 hz0 hs0 hby0 rfl (by decide) (.slice none 0 0) 0 [] rfl ?qc0 ⟨g,0,none⟩ (0) cp (flatR (O.take (0))) rfl ?qc1 ?qc2 ?qc3 ?qc4 ?qc5 ?qc6 ?_)
           case qc0=>exact World.ownsRow_nil _ _ _ _
           case qc1=>rw [flat_len,List.length_take,OL.out,Nat.min_eq_left (by omega)]
           case qc2 =>
             intro j u hj
             rw[Addr.add_lit,Nat.zero_add]
             have:=cells_of_flat CT.out j u (flat_take hj)
             simpa using this
           case qc3=>exact flat_one _
           case qc4=>unfold maxLen;omega
           case qc5=>omega
           case qc6=>exact Nat.le_refl _
           intro v1 w1 hown1 hgrow1 hnil1
           have hB1:Below WT.heap.size WT w1:=(Below.refl _ _).grown hgrow1 (Nat.le_refl _) (fun k hk=>by simp[Value.ownBlock]at hk)
           have OW1:Hid (w1.ownsRow WT.heap.size 54 3 v1 (0+(0)) ([]++flatR (O.take (0)))):=own_cast hown1 (by omega) (by simp)
           clear hown1 hnil1 hgrow1
           have g1:=below_keep hB1 e1
           have g2:=below_keep hB1 e2
           have g3:=below_keep hB1 e3
           have hal:Below w1.heap.size w1 (w1.alloc (.cells #[.string xp,.int .i64 xk,.int .i64 xv] 54)):=(Below.refl _ _).alloc (Nat.le_refl _) _
           have hB2:Below WT.heap.size WT (w1.alloc (.cells #[.string xp,.int .i64 xk,.int .i64 xv] 54)):=hB1.alloc hB1.size _
           go_wp2_with (at_builtin;refine wpList_append_own _ rfl _ _ 33 rfl WT.heap.size 54 i0 (.agg #[.string ⟨#[]⟩,.int .i64 0,.int .i64 0]) 3 32 Tryz.underlying33 hi0 hz0 hs0 hby0 rfl (by decide) v1 (0+(0)) ([]++flatR (O.take (0))) rfl ?qc0 ⟨w1.heap.size,0,none⟩ 1 1 (encR (xp,xk,xv)) rfl ?qc1 ?qc2 ?qc3 ?qc4 ?qc5 ?qc6 ?_)
           case qc0=>exact own_below OW1.out hal
           case qc1=>rfl
           case qc2 =>
             intro j u hj
             rw[Addr.add_lit,Nat.zero_add]
             exact cells_three w1 xp xk xv j u hj
           case qc3=>exact encR_one _
           case qc4=>unfold maxLen;omega
           case qc5=>omega
           case qc6=>exact hB2.size
           intro v2 w2 hown2 hgrow2 hnil2
           have hB3:Below WT.heap.size WT w2:=hB2.grown hgrow2 hB2.size (fun k hk=>own_block OW1.out hk)
           have OW2:Hid (w2.ownsRow WT.heap.size 54 3 v2 (0+(0)+1) ([]++flatR (O.take (0))++encR (xp,xk,xv))):=own_cast hown2 (by omega) (by simp[flatR])
           clear hown2 hnil2 hgrow2
           have z1:((0:Nat):Int)≤(n:Int):=by omega
           have z2:((0:Nat):Int)≤(cp:Int):=by omega
           have CT2:Hid (RowCells w2 g 0 O):=CT.out.below hB3
           go_wp2_with (at_builtin;refine wpList_append_own _ rfl _ _ 33 rfl WT.heap.size 54 i0 (.agg #[.string ⟨#[]⟩,.int .i64 0,.int .i64 0]) 3 32 Tryz.underlying33 hi0 hz0 hs0 hby0 rfl (by decide) v2 (0+(0)+1) ([]++flatR (O.take (0))++encR (xp,xk,xv)) rfl ?qc0 _ _ _ (flatR (O.drop (0))) rfl ?qc1 ?qc2 ?qc3 ?qc4 ?qc5 ?qc6 ?_)
           case qc0=>exact OW2.out
           case qc1=>have:=OL.out;rw[flat_len,List.length_drop];omega
           case qc2 =>
             intro j u hj
             rw[Addr.add_lit]
             have:=cells_of_flat CT2.out _ u (flat_drop hj)
             first
               | exact absurd hj (by rw[List.drop_of_length_le (by have:=OL.out;omega)];simp[flatR])
               | simpa using this
           case qc3=>exact flat_one _
           case qc4=>unfold maxLen;omega
           case qc5=>omega
           case qc6=>exact hB3.size
           intro v3 w3 hown3 hgrow3 hnil3
           have hB4:Below WT.heap.size WT w3:=hB3.grown hgrow3 hB3.size (fun k hk=>own_block OW2.out hk)
           have hbF:Below w.heap.size w w3:=by
             have q:=hbT.trans (hB4.mono hbT.size)
             exact hb.trans (q.mono hb.size)
           have hown5:w3.ownsRow w.heap.size 54 3 v3 (n+1) (flatR O'):=by
             have q:=hown3.mono (Nat.le_trans hb.size hbT.size)
             rw[←FIN.out,flat_append,flat_cons]
             exact own_cast q (by omega) (by simp[flatR])
           have OW5:Hid (w3.ownsRow w.heap.size 54 3 v3 (n+1) (flatR O')):=hown5
           clear hown5 hown3 hnil3 hgrow3
           go_wp2
           go_roundw
           case rel=>exact ⟨n+1,by omega,by go_num,hbF,by rw[HOO.out];exact OW5.out⟩
           case measure=>simp [intOf];omega
   · have hn':n=L:=by omega
     subst hn'
     have ht:xs.take n=xs:=List.take_of_length_le (by rw[HX.out];omega)
     rw[ht]at hown
     have OW:Hid (wr.ownsRow w.heap.size 54 3 u3 n (flatR (sortR xs))):=hown
     clear hown ht
     go_wp2
     go_ret
     exact⟨u3,rfl,(rowsAt_of_own OW.out).1,hb⟩
end Go.Proofs.YtdhkdjlgmbejnaaGreatDoor
namespace Go.Proofs.YtdhkdjlgmbejnaaGreatDoor
open Go.RowKit Go.Extern.Stop Go.Stop Go.Extern
theorem Tryz.isTypeOf (v:Value) (w:World):(Extern.ReflectliteType.typeOf #[.iface 327 v]).run Tryz.prog w= .ok (.iface 256 (.agg #[.pointer (some ⟨21,327,none⟩)])) w:=by kernel_rfl
def compEntry : Array Value → Sem Value := Extern.ReflectliteType.method fun t => do Extern.Rtype.noPackHeld "Comparable" t; pure (.bool (← typeInfo t).comparable)
theorem Tryz.isComparable (w:World):(compEntry #[.agg #[.pointer (some ⟨21,327,none⟩)]]).run Tryz.prog w= .ok (.bool true) w:=by kernel_rfl
theorem Tryz.isMethodComparable (v : Value) (w : World) : (Go.method 456 256 v "Comparable").run Tryz.prog w = .ok (292, v) w := by kernel_rfl
theorem Tryz.isComp:(Tryz.prog.info? 327).map (·.comparable)=some true:=by kernel_rfl
theorem Tryz.isSize:(Tryz.prog.info? 329).map (·.size)=some 1:=by kernel_rfl
theorem Tryz.noIsE (v:Value) (xT:TypeId) (w:World):(Instr.typeAssert (.iface 327 v) xT 267 true).run Tryz.prog w= .ok (.tuple #[.nilIface,.bool false]) w:=run_typeAssert_lacksB Tryz.underlying267 (by kernel_rfl) (by kernel_rfl) v xT w
theorem Tryz.noUnwrapE (v:Value) (xT:TypeId) (w:World):(Instr.typeAssert (.iface 327 v) xT 263 true).run Tryz.prog w= .ok (.tuple #[.nilIface,.bool false]) w:=run_typeAssert_lacksB Tryz.underlying263 (by kernel_rfl) (by kernel_rfl) v xT w
theorem Tryz.noUnwrapsE (v:Value) (xT:TypeId) (w:World):(Instr.typeAssert (.iface 327 v) xT 265 true).run Tryz.prog w= .ok (.tuple #[.nilIface,.bool false]) w:=run_typeAssert_lacksB Tryz.underlying265 (by kernel_rfl) (by kernel_rfl) v xT w
theorem Tryz.noAsE (v:Value) (xT:TypeId) (w:World):(Instr.typeAssert (.iface 327 v) xT 260 true).run Tryz.prog w= .ok (.tuple #[.nilIface,.bool false]) w:=run_typeAssert_lacksB Tryz.underlying260 (by kernel_rfl) (by kernel_rfl) v xT w
theorem Tryz.noIsW (v:Value) (xT:TypeId) (w:World):(Instr.typeAssert (.iface 92 v) xT 267 true).run Tryz.prog w= .ok (.tuple #[.nilIface,.bool false]) w:=run_typeAssert_lacksB Tryz.underlying267 (by kernel_rfl) (by kernel_rfl) v xT w
theorem Tryz.hasUnwrapW (v:Value) (xT:TypeId) (w:World):(Instr.typeAssert (.iface 92 v) xT 263 true).run Tryz.prog w= .ok (.tuple #[.iface 92 v,.bool true]) w:=run_typeAssert_hasB Tryz.underlying263 (by kernel_rfl) v xT w
theorem Tryz.methodUnwrap (v : Value) (w : World) : (Go.method 456 92 v "Unwrap").run Tryz.prog w = .ok (285, v) w := by kernel_rfl
theorem is_same (a:Addr) (w:World) :
   Calls Tryz.prog 109 #[.iface 327 (.pointer (some a)),.iface 327 (.pointer (some a))] w fun e w'=>e= .returned (.bool true)∧w'=w:=by
 obtain⟨i,hi,hcmp⟩:=Option.map_eq_some_iff.1 Tryz.isComp
 obtain⟨j,hj,hjs⟩:=Option.map_eq_some_iff.1 Tryz.isSize
 have h8:=@run_callFunc_extern Tryz.prog 154 _ Extern.ReflectliteType.typeOf Tryz.func154 (by kernel_rfl) (by kernel_rfl) (by kernel_rfl) (by kernel_rfl)
 have h32:=@run_callFunc_extern Tryz.prog 292 _ compEntry Tryz.func292 (by kernel_rfl) (by kernel_rfl) (by kernel_rfl) (by kernel_rfl)
 have tT:=Tryz.isTypeOf
 have cT:=Tryz.isComparable
 have mR:=Tryz.isMethodComparable
 have heq:=run_eql_iface_ptr_same (P:=Tryz.prog) w a Tryz.underlying35 Tryz.underlying327 hi hcmp hj
 go_enter Tryz.func109,Tryz.ntmps109
 go_wp2
 refine wp_loop_rounds 1 ?_
 rw[rounds_succ]
 go_wp2
 go_ret
 exact⟨rfl,rfl⟩
theorem is_other (a b:Addr) (ca cb:Array Value) (ta tb:TypeId) (w:World) (hne:a≠b) (ha:w.heap[a.block]? =some (.cells ca ta (0,0))) (hb:w.heap[b.block]? =some (.cells cb tb (0,0))) :
   Calls Tryz.prog 109 #[.iface 327 (.pointer (some a)),.iface 327 (.pointer (some b))] w fun e w'=>e= .returned (.bool false)∧w'=w:=by
 obtain⟨i,hi,hcmp⟩:=Option.map_eq_some_iff.1 Tryz.isComp
 obtain⟨j,hj,hjs⟩:=Option.map_eq_some_iff.1 Tryz.isSize
 have h8:=@run_callFunc_extern Tryz.prog 154 _ Extern.ReflectliteType.typeOf Tryz.func154 (by kernel_rfl) (by kernel_rfl) (by kernel_rfl) (by kernel_rfl)
 have h32:=@run_callFunc_extern Tryz.prog 292 _ compEntry Tryz.func292 (by kernel_rfl) (by kernel_rfl) (by kernel_rfl) (by kernel_rfl)
 have tT:=Tryz.isTypeOf
 have cT:=Tryz.isComparable
 have mR:=Tryz.isMethodComparable
 have nE:=Tryz.noIsE
 have uE:=Tryz.noUnwrapE
 have vE:=Tryz.noUnwrapsE
 have heq:=run_eql_iface_ptr_other (P:=Tryz.prog) w Tryz.underlying35 Tryz.underlying327 hi hcmp hj (by rw[hjs];decide) hne ha hb
 go_enter Tryz.func109,Tryz.ntmps109
 go_wp2
 refine wp_loop_rounds 1 ?_
 rw[rounds_succ]
 go_wp2
 go_ret
 exact⟨rfl,rfl⟩
theorem is_wrap_same (pb po:Nat) (b:Addr) (w:World) (h1:w.cell? ⟨pb,po+1,none⟩=some (.iface 327 (.pointer (some b)))) :
   Calls Tryz.prog 109 #[.iface 92 (.pointer (some ⟨pb,po,none⟩)),.iface 327 (.pointer (some b))] w fun e w'=>e= .returned (.bool true)∧w'=w:=by
 obtain⟨i,hi,hcmp⟩:=Option.map_eq_some_iff.1 Tryz.isComp
 obtain⟨j,hj,hjs⟩:=Option.map_eq_some_iff.1 Tryz.isSize
 have h8:=@run_callFunc_extern Tryz.prog 154 _ Extern.ReflectliteType.typeOf Tryz.func154 (by kernel_rfl) (by kernel_rfl) (by kernel_rfl) (by kernel_rfl)
 have h32:=@run_callFunc_extern Tryz.prog 292 _ compEntry Tryz.func292 (by kernel_rfl) (by kernel_rfl) (by kernel_rfl) (by kernel_rfl)
 have tT:=Tryz.isTypeOf
 have cT:=Tryz.isComparable
 have mR:=Tryz.isMethodComparable
 have nE:=Tryz.noIsE
 have uE:=Tryz.noUnwrapE
 have vE:=Tryz.noUnwrapsE
 have nW:=Tryz.noIsW
 have uW:=Tryz.hasUnwrapW
 have mU:=Tryz.methodUnwrap
 have heq:=run_eql_iface_ptr_same (P:=Tryz.prog) w b Tryz.underlying35 Tryz.underlying327 hi hcmp hj
 have hty:=run_eql_iface_types (P:=Tryz.prog) 92 327 (.pointer (some ⟨pb,po,none⟩)) (.pointer (some b)) Tryz.underlying35 (by decide) w
 go_enter Tryz.func109,Tryz.ntmps109
 go_wp2
 refine wp_loop_rounds 2 ?_
 rw[rounds_succ]
 go_wp2
 rw[rounds_succ]
 go_wp2
 go_ret
 exact⟨rfl,rfl⟩
theorem is_wrap_other (pb po:Nat) (b a:Addr) (ca cb:Array Value) (ta tb:TypeId) (w:World) (h1:w.cell? ⟨pb,po+1,none⟩=some (.iface 327 (.pointer (some a)))) (hne:a≠b) (ha:w.heap[a.block]? =some (.cells ca ta (0,0))) (hb:w.heap[b.block]? =some (.cells cb tb (0,0))) :
   Calls Tryz.prog 109 #[.iface 92 (.pointer (some ⟨pb,po,none⟩)),.iface 327 (.pointer (some b))] w fun e w'=>e= .returned (.bool false)∧w'=w:=by
 obtain⟨i,hi,hcmp⟩:=Option.map_eq_some_iff.1 Tryz.isComp
 obtain⟨j,hj,hjs⟩:=Option.map_eq_some_iff.1 Tryz.isSize
 have h8:=@run_callFunc_extern Tryz.prog 154 _ Extern.ReflectliteType.typeOf Tryz.func154 (by kernel_rfl) (by kernel_rfl) (by kernel_rfl) (by kernel_rfl)
 have h32:=@run_callFunc_extern Tryz.prog 292 _ compEntry Tryz.func292 (by kernel_rfl) (by kernel_rfl) (by kernel_rfl) (by kernel_rfl)
 have tT:=Tryz.isTypeOf
 have cT:=Tryz.isComparable
 have mR:=Tryz.isMethodComparable
 have nE:=Tryz.noIsE
 have uE:=Tryz.noUnwrapE
 have vE:=Tryz.noUnwrapsE
 have nW:=Tryz.noIsW
 have uW:=Tryz.hasUnwrapW
 have mU:=Tryz.methodUnwrap
 have heq:=run_eql_iface_ptr_other (P:=Tryz.prog) w Tryz.underlying35 Tryz.underlying327 hi hcmp hj (by rw[hjs];decide) hne ha hb
 have hty:=run_eql_iface_types (P:=Tryz.prog) 92 327 (.pointer (some ⟨pb,po,none⟩)) (.pointer (some b)) Tryz.underlying35 (by decide) w
 go_enter Tryz.func109,Tryz.ntmps109
 go_wp2
 refine wp_loop_rounds 2 ?_
 rw[rounds_succ]
 go_wp2
 rw[rounds_succ]
 go_wp2
 go_ret
 exact⟨rfl,rfl⟩
end Go.Proofs.YtdhkdjlgmbejnaaGreatDoor
