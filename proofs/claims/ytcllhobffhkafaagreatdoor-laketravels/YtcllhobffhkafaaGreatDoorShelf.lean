/- By an AI agent. -/
import Derived.Shelf.Strings.Builder1
import Derived.Shelf.Strings.Builder2
import Derived.Shelf.Strings.OnBuilder
import Derived.Shelf.Small.Bits
import Derived.Shelf.Small.Strs
import Derived.Shelf.Small.Wraps
import Derived.Shelf.Strings.BuilderF
import Derived.Shelf.Strings.BuilderK
import Derived.Shelf.Strconv.Atoi
import Derived.Shelf.Strconv.Itoa0
import Derived.Shelf.Strconv.Itoa1
import Derived.Shelf.LaysM
import Derived.Shelf.Strconv.Itoa2
import Derived.Shelf.Strconv.Itoa3
import Derived.Shelf.Strconv.AtoiErrFast
import Derived.Shelf.Strconv.ParseIntEmpty
import Derived.Shelf.Strconv.AtoiFail
import Derived.Shelf.Strconv.Clone
import Derived.Shelf.Strconv.SyntaxError
import Derived.Shelf.LaysC
import Derived.Shelf.Strconv.ToError
import Derived.Shelf.Strconv.AtoiErr
import Derived.Shelf.Strconv.Lower
import Derived.Shelf.Strconv.ParseUint10
import Derived.Shelf.Strconv.ParseUint10Empty
import Derived.Shelf.Strconv.ParseUint10Any
import Derived.Shelf.Strconv.ParseInt10
import Derived.Shelf.Strconv.AtoiLong
import Derived.Shelf.Strconv.AtoiInnerAll
import Derived.Shelf.Strconv.RangeError
import Derived.Shelf.Strconv.ToErrorRange
import Derived.Shelf.Strconv.AtoiAll
import Derived.Shelf.Strings.Search1
import Derived.Shelf.Strings.Search2
import Derived.Shelf.Strings.Search3
import Derived.Shelf.Strings.Cut
import Derived.Shelf.Strings.Count
import Derived.Shelf.Strings.Prefix
import Derived.Shelf.Strings.Split
import Derived.Shelf.Strings.SplitShaped
import Derived.Shelf.Slices.Turned
import Derived.Ground.Names2Prog
import Derived.Shelf.Slices.Clone
import Derived.Shelf.Slices.CompactI
import Derived.Shelf.Slices.CompactS
import Derived.Shelf.Slices.SearchI
import Derived.Shelf.Slices.Empties
import Derived.Ground.SlgnProg
import Derived.Shelf.SlicesE.Compact
import Derived.Shelf.SlicesE.Clone
import Derived.Ground.SlgfProg
import Derived.Shelf.SlicesE.IndexFunc
import Derived.Shelf.SlicesE.DeleteFunc
import Derived.Ground.SlgmProg
import Derived.Shelf.SortM.Plain
import Derived.Shelf.SortM.SortNone
import Derived.Shelf.SlGeneric
import Derived.Ground.NamesProg
import Derived.Ground.SlgqProg
import Derived.Shelf.SlicesQ.Equal
import Derived.Test.YtcllhobffhkafaaGreatDoorProg
set_option maxRecDepth 100000
set_option maxHeartbeats 16000000
open Go.Proofs.Tryz
open Go renaming World->J,Calls->H,Func->Q1
open Go.Ending renaming returned->A
open Go.IntKind renaming i64->Z
open Go.Lib renaming countB->Qy,cut->Qz,compact->Q0,atoi->Q4,hasSuffix->Q8
open Go.Proofs.Lays renaming n106->Q9,n122->QA,n172->QB,n146->QC,n145->QD,n113->QE,n114->QF,n107->QG,n104->QH,n103->QI,n100->QJ,n138->QK
open Go.Proofs.Tryz renaming prog->O,func182->Qd,func86->Qe,func163->Qf,func247->Qg,func316->Qh,func317->Qi,func318->Qj,func319->Qk,func356->Ql,func357->Qm,func358->Qn,func359->Qo,func380->Qp,func381->Qq,func334->Qr,func292->Qs,func336->Qt,func335->Qu,func371->Qv,func337->Qw,func372->Qx,underlying159->Q2,zeroValue159->Q3,underlying32->Q6,zeroValue32->Q7
open Go.Shelf renaming Ren->V
open Go.Value renaming int->U,string->I,slice->Qa,bool->Qb,tuple->Qc,nilIface->Q5
open Option renaming some->S,none->G
namespace Go.Proofs
theorem Tryz.lq {a b:Q1} {o:Option Q1} (h:o=S a) (e:a=b):o=S b:=h.trans (congrArg S e)
open Go.Shelf
def Tryz.lays106_ren:V:=⟨fun | 106=>143 | 213=>230 | 265=>313 | n=>n,fun | 9=>9 | 3=>3 | n=>n,fun | n=>n⟩
theorem Tryz.lays106:Q9 O lays106_ren:= {
 mixed:=by kernel_rfl
 f106:=Tryz.lq func143 (by kernel_rfl)
 f213:=Tryz.lq func230 (by kernel_rfl)
 f265:=Tryz.lq func313 (by kernel_rfl)
 t3:=underlying3
 a3:=isAgg3
 z3:=sizeOf3
 v3:=zeroValue3
 t9:=underlying9
 a9:=isAgg9
 z9:=sizeOf9
 v9:=zeroValue9 }
open Go.RowKit in
theorem Tryz.strings_Compare (a b:ByteArray) (w:J) :
 H O 143 #[I a,I b] w fun e w'=>e=A (U Z (Lib.compareBytes a.data.toList b.data.toList))/\w'=w:=Any.strings_Compare lays106 a b w
def Tryz.lays122_ren:V:=⟨fun | 122=>186 | 215=>183 | n=>n,fun | 3=>3 | 4=>4 | n=>n,fun | n=>n⟩
theorem Tryz.lays122:QA O lays122_ren:= { lays106 with
 mixed:=by kernel_rfl
 f122:=Tryz.lq func186 (by kernel_rfl)
 f215:=Tryz.lq func183 (by kernel_rfl)
 t4:=underlying4
 a4:=isAgg4
 z4:=sizeOf4
 v4:=zeroValue4 }
open Go.RowKit in
theorem Tryz.cmp_Compare_int (x y:Int) (w:J) :
 H O 186 #[U Z x,U Z y] w fun e w'=>e=A (U Z (Lib.compareInt x y))/\w'=w:=Any.cmp_Compare_int lays122 x y w
def Tryz.lays172_ren:V:=⟨fun | 172=>213 | 244=>294 | 245=>295 | 247=>338 | 279=>339 | 280=>340 | 281=>341 | 282=>342 | 287=>373 | 316=>374 | 171=>86 | 205=>375 | 321=>386 | 322=>387 | 243=>163 | 246=>247 | 283=>316 | 284=>317 | 285=>318 | 286=>319 | 129=>182 | 317=>356 | 318=>357 | 319=>358 | 320=>359 | 337=>380 | 338=>381 | n=>n,fun | 9=>9 | 3=>3 | 75=>27 | 76=>45 | 4=>4 | 5=>5 | 167=>359 | 37=>258 | 0=>0 | 85=>360 | 2=>2 | 168=>362 | 53=>242 | 175=>399 | 46=>159 | 210=>403 | 127=>320 | 145=>412 | 143=>410 | 21=>21 | 171=>344 | 173=>346 | 212=>390 | 51=>229 | 20=>20 | 213=>391 | 232=>417 | 233=>418 | 80=>64 | n=>n,fun | 15=>15 | 16=>16 | 17=>14 | 18=>19 | 19=>20 | n=>n⟩
theorem Tryz.lays172:QB O lays172_ren:= { lays106,lays122 with
 mixed:=by kernel_rfl
 f129:=Tryz.lq Qd (by kernel_rfl)
 f171:=Tryz.lq Qe (by kernel_rfl)
 f172:=Tryz.lq func213 (by kernel_rfl)
 f205:=Tryz.lq func375 (by kernel_rfl)
 f243:=Tryz.lq Qf (by kernel_rfl)
 f244:=Tryz.lq func294 (by kernel_rfl)
 f245:=Tryz.lq func295 (by kernel_rfl)
 f246:=Tryz.lq Qg (by kernel_rfl)
 f247:=Tryz.lq func338 (by kernel_rfl)
 f279:=Tryz.lq func339 (by kernel_rfl)
 f280:=Tryz.lq func340 (by kernel_rfl)
 f281:=Tryz.lq func341 (by kernel_rfl)
 f282:=Tryz.lq func342 (by kernel_rfl)
 f283:=Tryz.lq Qh (by kernel_rfl)
 f284:=Tryz.lq Qi (by kernel_rfl)
 f285:=Tryz.lq Qj (by kernel_rfl)
 f286:=Tryz.lq Qk (by kernel_rfl)
 f287:=Tryz.lq func373 (by kernel_rfl)
 f316:=Tryz.lq func374 (by kernel_rfl)
 f317:=Tryz.lq Ql (by kernel_rfl)
 f318:=Tryz.lq Qm (by kernel_rfl)
 f319:=Tryz.lq Qn (by kernel_rfl)
 f320:=Tryz.lq Qo (by kernel_rfl)
 f321:=Tryz.lq func386 (by kernel_rfl)
 f322:=Tryz.lq func387 (by kernel_rfl)
 f337:=Tryz.lq Qp (by kernel_rfl)
 f338:=Tryz.lq Qq (by kernel_rfl)
 t0:=underlying0
 a0:=isAgg0
 z0:=sizeOf0
 v0:=zeroValue0
 t2:=underlying2
 a2:=isAgg2
 z2:=sizeOf2
 v2:=zeroValue2
 t5:=underlying5
 a5:=isAgg5
 z5:=sizeOf5
 v5:=zeroValue5
 t20:=underlying20
 a20:=isAgg20
 z20:=sizeOf20
 v20:=zeroValue20
 t21:=underlying21
 a21:=isAgg21
 z21:=sizeOf21
 v21:=zeroValue21
 t37:=underlying258
 a37:=isAgg258
 z37:=sizeOf258
 v37:=zeroValue258
 t46:=Q2
 a46:=isAgg159
 z46:=sizeOf159
 v46:=Q3
 t51:=underlying229
 a51:=isAgg229
 z51:=sizeOf229
 v51:=zeroValue229
 t53:=underlying242
 a53:=isAgg242
 z53:=sizeOf242
 v53:=zeroValue242
 t75:=underlying27
 a75:=isAgg27
 z75:=sizeOf27
 v75:=zeroValue27
 t76:=underlying45
 a76:=isAgg45
 z76:=sizeOf45
 v76:=zeroValue45
 t85:=underlying360
 a85:=isAgg360
 z85:=sizeOf360
 v85:=zeroValue360
 t127:=underlying320
 a127:=isAgg320
 z127:=sizeOf320
 v127:=zeroValue320
 t143:=underlying410
 a143:=isAgg410
 z143:=sizeOf410
 v143:=zeroValue410
 t145:=underlying412
 a145:=isAgg412
 z145:=sizeOf412
 v145:=zeroValue412
 t167:=underlying359
 a167:=isAgg359
 z167:=sizeOf359
 v167:=zeroValue359
 t168:=underlying362
 a168:=isAgg362
 z168:=sizeOf362
 v168:=zeroValue362
 t171:=underlying344
 a171:=isAgg344
 z171:=sizeOf344
 v171:=zeroValue344
 t173:=underlying346
 a173:=isAgg346
 z173:=sizeOf346
 v173:=zeroValue346
 t175:=underlying399
 a175:=isAgg399
 z175:=sizeOf399
 v175:=zeroValue399
 t210:=underlying403
 a210:=isAgg403
 z210:=sizeOf403
 v210:=zeroValue403
 t212:=underlying390
 a212:=isAgg390
 z212:=sizeOf390
 v212:=zeroValue390
 t213:=underlying391
 a213:=isAgg391
 z213:=sizeOf391
 t232:=underlying417
 a232:=isAgg417
 z232:=sizeOf417
 v232:=zeroValue417
 t233:=underlying418
 a233:=isAgg418
 z233:=sizeOf418
 v233:=zeroValue418
 g15:=by kernel_rfl
 g16:=by kernel_rfl
 g17:=by kernel_rfl
 g18:=by kernel_rfl
 g19:=by kernel_rfl }
open Go.RowKit in
theorem Tryz.strconv_Atoi (s:ByteArray) (n:Int) (b:s.size<=18) (h:Q4 s.data.toList=S n) (w:J) :
 H O 213 #[I s] w fun e w'=>e=A (Qc #[U Z n,Q5])/\∃t,w'=Lib.bytesWorld w 5 t:=Any.strconv_Atoi lays172 s n b h w
def Tryz.laysM171_ren:V:=⟨fun | 171=>86 | 243=>163 | 246=>247 | 283=>316 | 284=>317 | 285=>318 | 286=>319 | 129=>182 | 317=>356 | 318=>357 | 319=>358 | 320=>359 | 337=>380 | 338=>381 | n=>n,fun | 3=>3 | 9=>9 | 2=>2 | 4=>4 | 171=>344 | 0=>0 | 53=>242 | 37=>258 | 5=>5 | 173=>346 | 212=>390 | 51=>229 | 20=>20 | 213=>391 | 46=>159 | 232=>417 | 233=>418 | n=>n,fun | 17=>14 | 18=>19 | 19=>20 | n=>n⟩
theorem Tryz.laysM171:Go.Proofs.LaysM.n171 O laysM171_ren:= { lays172 with
 mixed:=by kernel_rfl
 f129:=Tryz.lq Qd (by kernel_rfl)
 f171:=Tryz.lq Qe (by kernel_rfl)
 f243:=Tryz.lq Qf (by kernel_rfl)
 f246:=Tryz.lq Qg (by kernel_rfl)
 f283:=Tryz.lq Qh (by kernel_rfl)
 f284:=Tryz.lq Qi (by kernel_rfl)
 f285:=Tryz.lq Qj (by kernel_rfl)
 f286:=Tryz.lq Qk (by kernel_rfl)
 f317:=Tryz.lq Ql (by kernel_rfl)
 f318:=Tryz.lq Qm (by kernel_rfl)
 f319:=Tryz.lq Qn (by kernel_rfl)
 f320:=Tryz.lq Qo (by kernel_rfl)
 f337:=Tryz.lq Qp (by kernel_rfl)
 f338:=Tryz.lq Qq (by kernel_rfl)
 g17:=by kernel_rfl
 g18:=by kernel_rfl
 g19:=by kernel_rfl
 i0:=by kernel_rfl
 i2:=by kernel_rfl
 i3:=by kernel_rfl
 i4:=by kernel_rfl
 i5:=by kernel_rfl
 i9:=by kernel_rfl
 i20:=by kernel_rfl
 i37:=by kernel_rfl
 i46:=by kernel_rfl
 i51:=by kernel_rfl
 i53:=by kernel_rfl
 i171:=by kernel_rfl
 i173:=by kernel_rfl
 i212:=by kernel_rfl
 i232:=by kernel_rfl
 i233:=by kernel_rfl
 m17:=by kernel_rfl
 m18:=by kernel_rfl
 m19:=by kernel_rfl }
open Go.RowKit Go.Sort Go.Lib in
theorem Tryz.strconv_Itoa (n : Int) (c : -9223372036854775808 ≤ n) (d : n ≤ 9223372036854775807) (w : J) (b : Lib.TabIs O w "internal/strconv.uint64pow10" .u64 Lib.pow10Tab) :
 H O 86 #[U Z n] w fun e w'=>e=A (I ⟨(Lib.itoa n).toArray⟩)/\∃k os,w'=grow (w.drewN k) os:=Any.strconv_Itoa laysM171 n c d w b
def Tryz.lays146_ren:V:=⟨fun | 146=>131 | 221=>215 | 268=>297 | 138=>298 | 143=>299 | 195=>343 | 197=>344 | 218=>345 | 219=>292 | 260=>376 | 217=>334 | 225=>335 | 224=>336 | 267=>337 | 266=>371 | 314=>372 | n=>n,fun | 9=>9 | 31=>82 | 3=>3 | 4=>4 | 0=>0 | 105=>365 | 21=>21 | 5=>5 | 46=>159 | 119=>413 | 139=>416 | 138=>415 | 146=>380 | 51=>229 | n=>n,fun | 1=>13 | 3=>17 | 4=>18 | n=>n⟩
theorem Tryz.lays146:QC O lays146_ren:= { lays172 with
 mixed:=by kernel_rfl
 f138:=Tryz.lq func298 (by kernel_rfl)
 f143:=Tryz.lq func299 (by kernel_rfl)
 f146:=Tryz.lq func131 (by kernel_rfl)
 f195:=Tryz.lq func343 (by kernel_rfl)
 f197:=Tryz.lq func344 (by kernel_rfl)
 f217:=Tryz.lq Qr (by kernel_rfl)
 f218:=Tryz.lq func345 (by kernel_rfl)
 f219:=Tryz.lq Qs (by kernel_rfl)
 f221:=Tryz.lq func215 (by kernel_rfl)
 f224:=Tryz.lq Qt (by kernel_rfl)
 f225:=Tryz.lq Qu (by kernel_rfl)
 f260:=Tryz.lq func376 (by kernel_rfl)
 f266:=Tryz.lq Qv (by kernel_rfl)
 f267:=Tryz.lq Qw (by kernel_rfl)
 f268:=Tryz.lq func297 (by kernel_rfl)
 f314:=Tryz.lq Qx (by kernel_rfl)
 t31:=underlying82
 a31:=isAgg82
 z31:=sizeOf82
 v31:=zeroValue82
 t105:=underlying365
 a105:=isAgg365
 z105:=sizeOf365
 v105:=zeroValue365
 t119:=underlying413
 a119:=isAgg413
 z119:=sizeOf413
 t138:=underlying415
 a138:=isAgg415
 z138:=sizeOf415
 v138:=zeroValue415
 t139:=underlying416
 a139:=isAgg416
 z139:=sizeOf416
 v139:=zeroValue416
 t146:=underlying380
 a146:=isAgg380
 z146:=sizeOf380
 v146:=zeroValue380
 g1:=by kernel_rfl
 g3:=by kernel_rfl
 g4:=by kernel_rfl }
open Go.RowKit Go.Lib in
theorem Tryz.strings_Split (s b:ByteArray) (m:Int) (w:J) (c:s.size<4294967281) (d:w.cell? ⟨13,0,G⟩=S (U Z m)) (f:1<=b.size) :
 H O 131 #[I s,I b] w fun e w' =>
  e=A (Qa (S ⟨w.heap.size,0,G⟩) (Qy s b+1) (Qy s b+1))/\w'=w.alloc (.cells ((Lib.splitB b 0 (Qy s b) s).map I).toArray 9):=Any.strings_Split lays146 (by kernel_rfl) s b m w c d f
def Tryz.laysNm215_ren:V:=⟨fun | 15=>45 | n=>n,fun | 22=>32 | 3=>3 | 4=>4 | n=>n,fun | n=>n⟩
theorem Tryz.laysNm215:Go.Proofs.Lays2.n15 O laysNm215_ren:= { lays122 with
 mixed:=by kernel_rfl
 f15:=Tryz.lq func45 (by kernel_rfl)
 t22:=Q6
 a22:=isAgg32
 z22:=sizeOf32
 v22:=Q7
 i3:=by kernel_rfl }
open Go.RowKit Go.Lib in
theorem Tryz.slices_Clone_int (b d n c:Nat) (zs:List Int) (w:J) (g:n<=zs.length) (f:n*8<=140737488355328) (i:∀j,j<zs.length->w.cell? ⟨b,d+j,G⟩=S (U Z (zs.getD j 0))) :
 H O 45 #[Qa (S ⟨b,d,G⟩) n c] w fun e w'=> ∃v',e=A v'/\w'.ownsRow w.heap.size 3 1 v' n ((zs.take n).map (U Z))/\v'≠ Qa G 0 0/\Below w.heap.size w w':=Any.slices_Clone_int laysNm215 b d n c zs w g f i
open Go.RowKit Go.Lib in
theorem Tryz.slices_Clone_int_nil (n c:Nat) (w:J) :
 H O 45 #[Qa G n c] w fun e w'=>e=A (Qa G 0 0)/\w'=w:=Any.slices_Clone_int_nil laysNm215 n c w
open Go.RowKit Go.Lib in
theorem Tryz.slices_Clone_int_zero (a:Addr) (c:Nat) (w:J) :
 H O 45 #[Qa (S a) 0 c] w fun e w'=> ∃v',e=A v'/\w'.ownsRow w.heap.size 3 1 v' 0 []/\v'≠ Qa G 0 0/\Below w.heap.size w w':=Any.slices_Clone_int_zero laysNm215 a c w
def Tryz.laysC172_ren:V:=⟨fun | 172=>213 | 244=>294 | 245=>295 | 247=>338 | 279=>339 | 280=>340 | 281=>341 | 282=>342 | 287=>373 | 316=>374 | 171=>86 | 205=>375 | 321=>386 | 322=>387 | 243=>163 | 246=>247 | 283=>316 | 284=>317 | 285=>318 | 286=>319 | 129=>182 | 317=>356 | 318=>357 | 319=>358 | 320=>359 | 337=>380 | 338=>381 | n=>n,fun | 9=>9 | 3=>3 | 75=>27 | 76=>45 | 4=>4 | 5=>5 | 167=>359 | 37=>258 | 0=>0 | 85=>360 | 2=>2 | 168=>362 | 53=>242 | 175=>399 | 46=>159 | 210=>403 | 127=>320 | 145=>412 | 143=>410 | 21=>21 | 171=>344 | 173=>346 | 212=>390 | 51=>229 | 20=>20 | 213=>391 | 232=>417 | 233=>418 | 80=>64 | n=>n,fun | 15=>15 | 16=>16 | 17=>14 | 18=>19 | 19=>20 | n=>n⟩
theorem Tryz.laysC172:Go.Proofs.LaysC.n172 O laysC172_ren:= { lays172 with
 mixed:=by kernel_rfl
 f129:=Tryz.lq Qd (by kernel_rfl)
 f171:=Tryz.lq Qe (by kernel_rfl)
 f172:=Tryz.lq func213 (by kernel_rfl)
 f205:=Tryz.lq func375 (by kernel_rfl)
 f243:=Tryz.lq Qf (by kernel_rfl)
 f244:=Tryz.lq func294 (by kernel_rfl)
 f245:=Tryz.lq func295 (by kernel_rfl)
 f246:=Tryz.lq Qg (by kernel_rfl)
 f247:=Tryz.lq func338 (by kernel_rfl)
 f279:=Tryz.lq func339 (by kernel_rfl)
 f280:=Tryz.lq func340 (by kernel_rfl)
 f281:=Tryz.lq func341 (by kernel_rfl)
 f282:=Tryz.lq func342 (by kernel_rfl)
 f283:=Tryz.lq Qh (by kernel_rfl)
 f284:=Tryz.lq Qi (by kernel_rfl)
 f285:=Tryz.lq Qj (by kernel_rfl)
 f286:=Tryz.lq Qk (by kernel_rfl)
 f287:=Tryz.lq func373 (by kernel_rfl)
 f316:=Tryz.lq func374 (by kernel_rfl)
 f317:=Tryz.lq Ql (by kernel_rfl)
 f318:=Tryz.lq Qm (by kernel_rfl)
 f319:=Tryz.lq Qn (by kernel_rfl)
 f320:=Tryz.lq Qo (by kernel_rfl)
 f321:=Tryz.lq func386 (by kernel_rfl)
 f322:=Tryz.lq func387 (by kernel_rfl)
 f337:=Tryz.lq Qp (by kernel_rfl)
 f338:=Tryz.lq Qq (by kernel_rfl)
 g15:=by kernel_rfl
 g16:=by kernel_rfl
 g17:=by kernel_rfl
 g18:=by kernel_rfl
 g19:=by kernel_rfl
 t80:=underlying64
 a80:=isAgg64
 z80:=sizeOf64
 v80:=zeroValue64
 i0:=by kernel_rfl
 i2:=by kernel_rfl
 i3:=by kernel_rfl
 i4:=by kernel_rfl
 i5:=by kernel_rfl
 i9:=by kernel_rfl
 i20:=by kernel_rfl
 i21:=by kernel_rfl
 i37:=by kernel_rfl
 i46:=by kernel_rfl
 i51:=by kernel_rfl
 i53:=by kernel_rfl
 i75:=by kernel_rfl
 i76:=by kernel_rfl
 i80:=by kernel_rfl
 i85:=by kernel_rfl
 i127:=by kernel_rfl
 i143:=by kernel_rfl
 i145:=by kernel_rfl
 i167:=by kernel_rfl
 i168:=by kernel_rfl
 i171:=by kernel_rfl
 i173:=by kernel_rfl
 i175:=by kernel_rfl
 i210:=by kernel_rfl
 i212:=by kernel_rfl
 i232:=by kernel_rfl
 i233:=by kernel_rfl
 m15:=by kernel_rfl
 m16:=by kernel_rfl
 m17:=by kernel_rfl
 m18:=by kernel_rfl
 m19:=by kernel_rfl
 c0:=by kernel_rfl
 c2:=by kernel_rfl
 c3:=by kernel_rfl
 c4:=by kernel_rfl
 c5:=by kernel_rfl
 c9:=by kernel_rfl
 c20:=by kernel_rfl
 c21:=by kernel_rfl
 c37:=by kernel_rfl
 c46:=by kernel_rfl
 c51:=by kernel_rfl
 c53:=by kernel_rfl
 c75:=by kernel_rfl
 c76:=by kernel_rfl
 c80:=by kernel_rfl
 c85:=by kernel_rfl
 c127:=by kernel_rfl
 c143:=by kernel_rfl
 c145:=by kernel_rfl
 c167:=by kernel_rfl
 c168:=by kernel_rfl
 c171:=by kernel_rfl
 c173:=by kernel_rfl
 c175:=by kernel_rfl
 c210:=by kernel_rfl
 c212:=by kernel_rfl
 c213:=by kernel_rfl
 c232:=by kernel_rfl
 c233:=by kernel_rfl }
open Go.RowKit in
theorem Tryz.strconv_Atoi_err (s:ByteArray) (d:s.size<=18) (h:Q4 s.data.toList=G) (b:Value) (w:J) (f:w.cell? ⟨15,0,G⟩=S b) (c:b=Q5\/∃te pe,b= .iface te pe) :
 H O 213 #[I s] w fun e w'=> ∃N,e=A (Qc #[U Z 0,.iface 362 (.pointer (S ⟨N,0,G⟩))])/\w.heap.size<=N/\w'.heap[N]? =S (.cells #[I ⟨#[65,116,111,105]⟩,I s,b] 403 (0,0))/\Below w.heap.size w w':=Any.strconv_Atoi_err laysC172 s d h b w f c
def Tryz.lays145_ren:V:=⟨fun | 145=>122 | 220=>210 | 219=>292 | 217=>334 | 225=>335 | 224=>336 | 267=>337 | 266=>371 | 314=>372 | n=>n,fun | 9=>9 | 4=>4 | 59=>183 | 3=>3 | 5=>5 | 46=>159 | 146=>380 | 51=>229 | n=>n,fun | 1=>13 | n=>n⟩
theorem Tryz.lays145:QD O lays145_ren:= { lays146 with
 mixed:=by kernel_rfl
 f145:=Tryz.lq func122 (by kernel_rfl)
 f217:=Tryz.lq Qr (by kernel_rfl)
 f219:=Tryz.lq Qs (by kernel_rfl)
 f220:=Tryz.lq func210 (by kernel_rfl)
 f224:=Tryz.lq Qt (by kernel_rfl)
 f225:=Tryz.lq Qu (by kernel_rfl)
 f266:=Tryz.lq Qv (by kernel_rfl)
 f267:=Tryz.lq Qw (by kernel_rfl)
 f314:=Tryz.lq Qx (by kernel_rfl)
 t59:=underlying183
 a59:=isAgg183
 z59:=sizeOf183
 v59:=zeroValue183
 g1:=by kernel_rfl }
open Go.RowKit Go.Lib in
theorem Tryz.strings_Cut (s b:ByteArray) (m:Int) (w:J) (c:s.size<4294967281) (d:w.cell? ⟨13,0,G⟩=S (U Z m)) :
 H O 122 #[I s,I b] w fun e w'=>e=A (Qc #[I ⟨(Qz s.data.toList b.data.toList).1.toArray⟩,I ⟨(Qz s.data.toList b.data.toList).2.1.toArray⟩,Qb (Qz s.data.toList b.data.toList).2.2])/\∃n,w'=w.drewN n:=Any.strings_Cut lays145 s b m w c d
def Tryz.laysNm225_ren:V:=⟨fun | 25=>51 | 31=>100 | 32=>101 | 37=>183 | n=>n,fun | 22=>32 | 3=>3 | 4=>4 | 40=>159 | 0=>0 | n=>n,fun | n=>n⟩
theorem Tryz.laysNm225:Go.Proofs.Lays2.n25 O laysNm225_ren:= { laysNm215,lays172 with
 mixed:=by kernel_rfl
 f25:=Tryz.lq func51 (by kernel_rfl)
 f31:=Tryz.lq func100 (by kernel_rfl)
 f32:=Tryz.lq func101 (by kernel_rfl)
 f37:=Tryz.lq func183 (by kernel_rfl)
 t40:=Q2
 a40:=isAgg159
 z40:=sizeOf159
 v40:=Q3 }
open Go.RowKit Go.Lib in
theorem Tryz.slices_BinarySearch_int (b d n c:Nat) (zs:List Int) (x:Int) (w:J) (g:n<=zs.length) (f:n<4611686018427387904) (i:∀j,j<zs.length->w.cell? ⟨b,d+j,G⟩=S (U Z (zs.getD j 0))) (k:(zs.take n).Pairwise (· <= ·)) :
 H O 51 #[Qa (S ⟨b,d,G⟩) n c,U Z x] w fun e w'=>e=A (Qc #[U Z ((zs.take n).countP (· < x):Nat),Qb ((zs.take n).contains x)])/\∃q,w'=w.drewN q:=Any.slices_BinarySearch_int laysNm225 b d n c zs x w g f i k
open Go.RowKit Go.Lib in
theorem Tryz.slices_BinarySearch_int_empty (a:Option Addr) (c:Nat) (x:Int) (w:J) :
 H O 51 #[Qa a 0 c,U Z x] w fun e w'=>e=A (Qc #[U Z 0,Qb false])/\w'=w:=Any.slices_BinarySearch_int_empty laysNm225 a c x w
def Tryz.laysNm220_ren:V:=⟨fun | 20=>202 | n=>n,fun | 22=>32 | 3=>3 | 4=>4 | 0=>0 | n=>n,fun | n=>n⟩
theorem Tryz.laysNm220:Go.Proofs.Lays2.n20 O laysNm220_ren:= { laysNm225 with
 mixed:=by kernel_rfl
 f20:=Tryz.lq func202 (by kernel_rfl)
 i3:=by kernel_rfl }
open Go.RowKit Go.Lib Go.Sort in
theorem Tryz.slices_Compact_int (b c d:Nat) (zs:List Int) (w:J) (i:Holds (U Z) w b c zs.toArray) (g:zs.length<=9223372036854775807) (f:zs.length<=d) :
 H O 202 #[Qa (S ⟨b,c,G⟩) zs.length d] w fun e w'=>e=A (Qa (S ⟨b,c,G⟩) (Q0 zs).length d)/\∃q,w'=putRow (U Z) (Sort.ahead w q) b c (Q0 zs++List.replicate (zs.length-(Q0 zs).length) 0).toArray:=Any.slices_Compact_int laysNm220 b c d zs w i g f
open Go.RowKit Go.Lib Go.Sort in
theorem Tryz.slices_Compact_int_empty (a:Option Addr) (b:Nat) (w:J) :
 H O 202 #[Qa a 0 b] w fun e w'=>e=A (Qa a 0 b)/\w'=w:=Any.slices_Compact_int_empty laysNm220 a b w
def Tryz.lays113_ren:V:=⟨fun | 113=>241 | n=>n,fun | 28=>32 | 3=>3 | 4=>4 | 9=>9 | 20=>20 | 0=>0 | n=>n,fun | n=>n⟩
theorem Tryz.lays113:QE O lays113_ren:= { lays172 with
 mixed:=by kernel_rfl
 f113:=Tryz.lq func241 (by kernel_rfl)
 t28:=Q6
 a28:=isAgg32
 z28:=sizeOf32
 v28:=Q7 }
open Go.Lib in
theorem Tryz.slices_Max_int (b d n c:Nat) (zs:List Int) (w:J) (g:0<n) (i:n<=zs.length) (f:n<=9223372036854775807) (k:∀j,j<zs.length->w.cell? ⟨b,d+j,G⟩=S (U Z (zs.getD j 0))) :
 H O 241 #[Qa (S ⟨b,d,G⟩) n c] w fun e w'=>e=A (U Z (Lib.maxOf (zs.take n)))/\w'=w:=Any.slices_Max_int lays113 b d n c zs w g i f k
def Tryz.lays114_ren:V:=⟨fun | 114=>240 | n=>n,fun | 28=>32 | 3=>3 | 4=>4 | 9=>9 | 20=>20 | 0=>0 | n=>n,fun | n=>n⟩
theorem Tryz.lays114:QF O lays114_ren:= { lays113 with
 mixed:=by kernel_rfl
 f114:=Tryz.lq func240 (by kernel_rfl) }
open Go.Lib in
theorem Tryz.slices_Min_int (b d n c:Nat) (zs:List Int) (w:J) (g:0<n) (i:n<=zs.length) (f:n<=9223372036854775807) (k:∀j,j<zs.length->w.cell? ⟨b,d+j,G⟩=S (U Z (zs.getD j 0))) :
 H O 240 #[Qa (S ⟨b,d,G⟩) n c] w fun e w'=>e=A (U Z (Lib.minOf (zs.take n)))/\w'=w:=Any.slices_Min_int lays114 b d n c zs w g i f k
def Tryz.lays107_ren:V:=⟨fun | 107=>46 | 108=>95 | n=>n,fun | 28=>32 | 3=>3 | 4=>4 | 0=>0 | n=>n,fun | n=>n⟩
theorem Tryz.lays107:QG O lays107_ren:= { lays113 with
 mixed:=by kernel_rfl
 f107:=Tryz.lq func46 (by kernel_rfl)
 f108:=Tryz.lq func95 (by kernel_rfl) }
open Go.Lib in
theorem Tryz.slices_Contains_int (b d n c:Nat) (zs:List Int) (x:Int) (w:J) (g:n<=zs.length) (f:n<=9223372036854775807) (i:∀j,j<zs.length->w.cell? ⟨b,d+j,G⟩=S (U Z (zs.getD j 0))) :
 H O 46 #[Qa (S ⟨b,d,G⟩) n c,U Z x] w fun e w'=>e=A (Qb ((zs.take n).contains x))/\w'=w:=Any.slices_Contains_int lays107 b d n c zs x w g f i
open Go.Lib in
theorem Tryz.slices_Contains_int_empty (a:Option Addr) (c:Nat) (x:Int) (w:J) :
 H O 46 #[Qa a 0 c,U Z x] w fun e w'=>e=A (Qb false)/\w'=w:=Any.slices_Contains_int_empty lays107 a c x w
def Tryz.lays104_ren:V:=⟨fun | 104=>130 | 211=>214 | 207=>296 | n=>n,fun | 9=>9 | 4=>4 | 24=>186 | 3=>3 | n=>n,fun | n=>n⟩
theorem Tryz.lays104:QH O lays104_ren:= { lays172 with
 mixed:=by kernel_rfl
 f104:=Tryz.lq func130 (by kernel_rfl)
 f207:=Tryz.lq func296 (by kernel_rfl)
 f211:=Tryz.lq func214 (by kernel_rfl)
 t24:=underlying186
 a24:=isAgg186
 z24:=sizeOf186
 v24:=zeroValue186 }
open Go.RowKit in
theorem Tryz.strings_CutSuffix (s p:ByteArray) (w:J) (b:s.size<=9223372036854775807) :
 H O 130 #[I s,I p] w fun e w'=>e=A (Qc #[I ⟨(Lib.trimSuffix s.data.toList p.data.toList).toArray⟩,Qb (Q8 s.data.toList p.data.toList)])/\w'=w:=Any.strings_CutSuffix lays104 s p w b
def Tryz.lays103_ren:V:=⟨fun | 103=>128 | 210=>212 | 206=>293 | n=>n,fun | 9=>9 | 4=>4 | 24=>186 | 3=>3 | n=>n,fun | n=>n⟩
theorem Tryz.lays103:QI O lays103_ren:= { lays104 with
 mixed:=by kernel_rfl
 f103:=Tryz.lq func128 (by kernel_rfl)
 f206:=Tryz.lq func293 (by kernel_rfl)
 f210:=Tryz.lq func212 (by kernel_rfl) }
open Go.RowKit in
theorem Tryz.strings_CutPrefix (s p:ByteArray) (w:J) :
 H O 128 #[I s,I p] w fun e w'=>e=A (Qc #[I ⟨(Lib.trimPrefix s.data.toList p.data.toList).toArray⟩,Qb (Lib.hasPrefix s.data.toList p.data.toList)])/\w'=w:=Any.strings_CutPrefix lays103 s p w
def Tryz.lays100_ren:V:=⟨fun | 100=>324 | 207=>296 | n=>n,fun | 9=>9 | 4=>4 | 3=>3 | n=>n,fun | n=>n⟩
theorem Tryz.lays100:QJ O lays100_ren:= { lays172 with
 mixed:=by kernel_rfl
 f100:=Tryz.lq func324 (by kernel_rfl)
 f207:=Tryz.lq func296 (by kernel_rfl) }
open Go.RowKit Go.Lib in
theorem Tryz.strings_HasSuffix (s p:ByteArray) (w:J) (b:s.size<=9223372036854775807) :
 H O 324 #[I s,I p] w fun e w'=>e=A (Qb (Q8 s.data.toList p.data.toList))/\w'=w:=Any.strings_HasSuffix lays100 s p w b
def Tryz.lays138_ren:V:=⟨fun | 138=>298 | 195=>343 | 218=>345 | 143=>299 | 219=>292 | 217=>334 | 225=>335 | 224=>336 | 267=>337 | 266=>371 | 314=>372 | n=>n,fun | 9=>9 | 3=>3 | 4=>4 | 5=>5 | 0=>0 | 46=>159 | 146=>380 | 51=>229 | n=>n,fun | 1=>13 | n=>n⟩
theorem Tryz.lays138:QK O lays138_ren:= { lays146 with
 mixed:=by kernel_rfl
 f138:=Tryz.lq func298 (by kernel_rfl)
 f143:=Tryz.lq func299 (by kernel_rfl)
 f195:=Tryz.lq func343 (by kernel_rfl)
 f217:=Tryz.lq Qr (by kernel_rfl)
 f218:=Tryz.lq func345 (by kernel_rfl)
 f219:=Tryz.lq Qs (by kernel_rfl)
 f224:=Tryz.lq Qt (by kernel_rfl)
 f225:=Tryz.lq Qu (by kernel_rfl)
 f266:=Tryz.lq Qv (by kernel_rfl)
 f267:=Tryz.lq Qw (by kernel_rfl)
 f314:=Tryz.lq Qx (by kernel_rfl)
 g1:=by kernel_rfl }
open Go.RowKit Go.Lib in
theorem Tryz.strings_Count_one (s:ByteArray) (c:UInt8) (w:J) :
 H O 298 #[I s,I ⟨#[c]⟩] w fun e w'=>e=A (U Z (Lib.countByte s.data.toList c))/\w'=w:=Any.strings_Count_one lays138 s c w
def Tryz.cloneRow_ren:V:=⟨fun | 41=>102 | n=>n,fun | 22=>35 | 23=>62 | 4=>4 | n=>n,fun | n=>n⟩
theorem Tryz.cloneRow:Go.Proofs.SlLaysE0.n41 O cloneRow_ren:= { lays122 with
 mixed:=by kernel_rfl
 f41:=⟨Tryz.f102.name,by decide,Tryz.lq func102 (by kernel_rfl)⟩
 t22:=underlying35
 a22:=isAgg35
 z22:=sizeOf35
 v22:=zeroValue35 }
def Tryz.equalRow_ren:V:=⟨fun | 8=>52 | n=>n,fun | 22=>35 | 24=>62 | 4=>4 | 3=>3 | 0=>0 | n=>n,fun | n=>n⟩
theorem Tryz.equalRow:Go.Proofs.SlLaysQ.n8 O equalRow_ren:= { lays172,cloneRow with
 mixed:=by kernel_rfl
 f8:=⟨Tryz.f52.name,by decide,Tryz.lq func52 (by kernel_rfl)⟩ }
end Go.Proofs
