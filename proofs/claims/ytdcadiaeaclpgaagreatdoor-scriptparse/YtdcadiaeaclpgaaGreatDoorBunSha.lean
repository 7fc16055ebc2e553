/- Contracts of the library, laid at this program: no walk. -/
import Derived.Shelf.LaysC
import Derived.Shelf.Strconv.AtoiAll
import Derived.Test.YtdcadiaeaclpgaaGreatDoorProg
import Derived.Shelf.LaysM
import Derived.Shelf.Strings.Search1
import Derived.Shelf.Strings.Search2
import Derived.Shelf.Strings.Cut
import Derived.Shelf.Strings.Shaped
import Derived.Test.YtdcadiaeaclpgaaGreatDoorBunSra
namespace Go.Proofs
open Go.Shelf
set_option maxHeartbeats 1600000
set_option maxRecDepth 1000000
def Tryz.laysC172_ren:Go.Shelf.Ren:=⟨fun|129=>135|171=>84|172=>151|205=>207|243=>108|244=>169|245=>170|246=>88|247=>188|279=>189|280=>190|281=>191|282=>192|283=>113|284=>114|285=>115|286=>116|287=>205|316=>206|317=>134|318=>136|319=>137|320=>138|321=>221|322=>222|337=>159|338=>160|n=>n,fun|0=>0|2=>2|3=>3|4=>4|5=>5|9=>9|20=>20|21=>21|37=>91|46=>170|51=>145|53=>143|75=>95|76=>96|80=>98|85=>219|127=>126|143=>251|145=>253|167=>218|168=>221|171=>150|173=>153|175=>235|210=>239|212=>168|213=>169|232=>205|233=>206|n=>n,fun|15=>4|16=>5|17=>1|18=>2|19=>3|n=>n⟩
theorem Tryz.laysC172:Go.Proofs.LaysC.n172 Tryz.prog Tryz.laysC172_ren:={
 mixed:=by kernel_rfl
 f129:=Tryz.func135.trans (congrArg some (by kernel_rfl))
 f171:=Tryz.func84.trans (congrArg some (by kernel_rfl))
 f172:=Tryz.func151.trans (congrArg some (by kernel_rfl))
 f205:=Tryz.func207.trans (congrArg some (by kernel_rfl))
 f243:=Tryz.func108.trans (congrArg some (by kernel_rfl))
 f244:=Tryz.func169.trans (congrArg some (by kernel_rfl))
 f245:=Tryz.func170.trans (congrArg some (by kernel_rfl))
 f246:=Tryz.func88.trans (congrArg some (by kernel_rfl))
 f247:=Tryz.func188.trans (congrArg some (by kernel_rfl))
 f279:=Tryz.func189.trans (congrArg some (by kernel_rfl))
 f280:=Tryz.func190.trans (congrArg some (by kernel_rfl))
 f281:=Tryz.func191.trans (congrArg some (by kernel_rfl))
 f282:=Tryz.func192.trans (congrArg some (by kernel_rfl))
 f283:=Tryz.func113.trans (congrArg some (by kernel_rfl))
 f284:=Tryz.func114.trans (congrArg some (by kernel_rfl))
 f285:=Tryz.func115.trans (congrArg some (by kernel_rfl))
 f286:=Tryz.func116.trans (congrArg some (by kernel_rfl))
 f287:=Tryz.func205.trans (congrArg some (by kernel_rfl))
 f316:=Tryz.func206.trans (congrArg some (by kernel_rfl))
 f317:=Tryz.func134.trans (congrArg some (by kernel_rfl))
 f318:=Tryz.func136.trans (congrArg some (by kernel_rfl))
 f319:=Tryz.func137.trans (congrArg some (by kernel_rfl))
 f320:=Tryz.func138.trans (congrArg some (by kernel_rfl))
 f321:=Tryz.func221.trans (congrArg some (by kernel_rfl))
 f322:=Tryz.func222.trans (congrArg some (by kernel_rfl))
 f337:=Tryz.func159.trans (congrArg some (by kernel_rfl))
 f338:=Tryz.func160.trans (congrArg some (by kernel_rfl))
 t0:=Tryz.underlying0
 a0:=Tryz.isAgg0
 z0:=Tryz.sizeOf0
 v0:=Tryz.zeroValue0
 t2:=Tryz.underlying2
 a2:=Tryz.isAgg2
 z2:=Tryz.sizeOf2
 v2:=Tryz.zeroValue2
 t3:=Tryz.underlying3
 a3:=Tryz.isAgg3
 z3:=Tryz.sizeOf3
 v3:=Tryz.zeroValue3
 t4:=Tryz.underlying4
 a4:=Tryz.isAgg4
 z4:=Tryz.sizeOf4
 v4:=Tryz.zeroValue4
 t5:=Tryz.underlying5
 a5:=Tryz.isAgg5
 z5:=Tryz.sizeOf5
 v5:=Tryz.zeroValue5
 t9:=Tryz.underlying9
 a9:=Tryz.isAgg9
 z9:=Tryz.sizeOf9
 v9:=Tryz.zeroValue9
 t20:=Tryz.underlying20
 a20:=Tryz.isAgg20
 z20:=Tryz.sizeOf20
 v20:=Tryz.zeroValue20
 t21:=Tryz.underlying21
 a21:=Tryz.isAgg21
 z21:=Tryz.sizeOf21
 v21:=Tryz.zeroValue21
 t37:=Tryz.underlying91
 a37:=Tryz.isAgg91
 z37:=Tryz.sizeOf91
 v37:=Tryz.zeroValue91
 t46:=Tryz.underlying170
 a46:=Tryz.isAgg170
 z46:=Tryz.sizeOf170
 v46:=Tryz.zeroValue170
 t51:=Tryz.underlying145
 a51:=Tryz.isAgg145
 z51:=Tryz.sizeOf145
 v51:=Tryz.zeroValue145
 t53:=Tryz.underlying143
 a53:=Tryz.isAgg143
 z53:=Tryz.sizeOf143
 v53:=Tryz.zeroValue143
 t75:=Tryz.underlying95
 a75:=Tryz.isAgg95
 z75:=Tryz.sizeOf95
 v75:=Tryz.zeroValue95
 t76:=Tryz.underlying96
 a76:=Tryz.isAgg96
 z76:=Tryz.sizeOf96
 v76:=Tryz.zeroValue96
 t85:=Tryz.underlying219
 a85:=Tryz.isAgg219
 z85:=Tryz.sizeOf219
 v85:=Tryz.zeroValue219
 t127:=Tryz.underlying126
 a127:=Tryz.isAgg126
 z127:=Tryz.sizeOf126
 v127:=Tryz.zeroValue126
 t143:=Tryz.underlying251
 a143:=Tryz.isAgg251
 z143:=Tryz.sizeOf251
 v143:=Tryz.zeroValue251
 t145:=Tryz.underlying253
 a145:=Tryz.isAgg253
 z145:=Tryz.sizeOf253
 v145:=Tryz.zeroValue253
 t167:=Tryz.underlying218
 a167:=Tryz.isAgg218
 z167:=Tryz.sizeOf218
 v167:=Tryz.zeroValue218
 t168:=Tryz.underlying221
 a168:=Tryz.isAgg221
 z168:=Tryz.sizeOf221
 v168:=Tryz.zeroValue221
 t171:=Tryz.underlying150
 a171:=Tryz.isAgg150
 z171:=Tryz.sizeOf150
 v171:=Tryz.zeroValue150
 t173:=Tryz.underlying153
 a173:=Tryz.isAgg153
 z173:=Tryz.sizeOf153
 v173:=Tryz.zeroValue153
 t175:=Tryz.underlying235
 a175:=Tryz.isAgg235
 z175:=Tryz.sizeOf235
 v175:=Tryz.zeroValue235
 t210:=Tryz.underlying239
 a210:=Tryz.isAgg239
 z210:=Tryz.sizeOf239
 v210:=Tryz.zeroValue239
 t212:=Tryz.underlying168
 a212:=Tryz.isAgg168
 z212:=Tryz.sizeOf168
 v212:=Tryz.zeroValue168
 t213:=Tryz.underlying169
 a213:=Tryz.isAgg169
 z213:=Tryz.sizeOf169
 t232:=Tryz.underlying205
 a232:=Tryz.isAgg205
 z232:=Tryz.sizeOf205
 v232:=Tryz.zeroValue205
 t233:=Tryz.underlying206
 a233:=Tryz.isAgg206
 z233:=Tryz.sizeOf206
 v233:=Tryz.zeroValue206
 g15:=by kernel_rfl
 g16:=by kernel_rfl
 g17:=by kernel_rfl
 g18:=by kernel_rfl
 g19:=by kernel_rfl
 t80:=Tryz.underlying98
 a80:=Tryz.isAgg98
 z80:=Tryz.sizeOf98
 v80:=Tryz.zeroValue98
 i0:=by kernel_rfl
 i2:=by kernel_rfl
 i3:=by kernel_rfl
 i4:=by kernel_rfl
 i5:=by kernel_rfl
 i9:=by kernel_rfl
 i20:=by kernel_rfl
 i21:=by kernel_rfl
 i37:=by kernel_rfl
 i46:=by kernel_rfl
 i51:=by kernel_rfl
 i53:=by kernel_rfl
 i75:=by kernel_rfl
 i76:=by kernel_rfl
 i80:=by kernel_rfl
 i85:=by kernel_rfl
 i127:=by kernel_rfl
 i143:=by kernel_rfl
 i145:=by kernel_rfl
 i167:=by kernel_rfl
 i168:=by kernel_rfl
 i171:=by kernel_rfl
 i173:=by kernel_rfl
 i175:=by kernel_rfl
 i210:=by kernel_rfl
 i212:=by kernel_rfl
 i232:=by kernel_rfl
 i233:=by kernel_rfl
 m15:=by kernel_rfl
 m16:=by kernel_rfl
 m17:=by kernel_rfl
 m18:=by kernel_rfl
 m19:=by kernel_rfl
 c0:=by kernel_rfl
 c2:=by kernel_rfl
 c3:=by kernel_rfl
 c4:=by kernel_rfl
 c5:=by kernel_rfl
 c9:=by kernel_rfl
 c20:=by kernel_rfl
 c21:=by kernel_rfl
 c37:=by kernel_rfl
 c46:=by kernel_rfl
 c51:=by kernel_rfl
 c53:=by kernel_rfl
 c75:=by kernel_rfl
 c76:=by kernel_rfl
 c80:=by kernel_rfl
 c85:=by kernel_rfl
 c127:=by kernel_rfl
 c143:=by kernel_rfl
 c145:=by kernel_rfl
 c167:=by kernel_rfl
 c168:=by kernel_rfl
 c171:=by kernel_rfl
 c173:=by kernel_rfl
 c175:=by kernel_rfl
 c210:=by kernel_rfl
 c212:=by kernel_rfl
 c213:=by kernel_rfl
 c232:=by kernel_rfl
 c233:=by kernel_rfl }
open Go.RowKit Go.Lib in
theorem Tryz.strconv_Atoi_ok (s:ByteArray) (hmax:s.size≤9223372036854775806) (v:Int) (h:Lib.atoiAll s.data.toList=.ok v) (w:World) :
    Calls Tryz.prog 151 #[.string s] w fun e w'=>e=.returned (.tuple #[.int .i64 v,.nilIface])∧(w'=w∨∃t,w'=Lib.bytesWorld w 5 t):=Any.strconv_Atoi_ok Tryz.laysC172 s hmax v h w
open Go.RowKit Go.Lib in
theorem Tryz.strconv_Atoi_syntax (s:ByteArray) (hlim:s.size≤281474976710656) (h:Lib.atoiAll s.data.toList=.syntax) (ev:Value) (w:World) (hv:w.cell? ⟨4,0,none⟩=some ev) (hev:ev=.nilIface∨∃te pe,ev=.iface te pe) :
    Calls Tryz.prog 151 #[.string s] w fun e w'=>∃N,e=.returned (.tuple #[.int .i64 0,.iface 221 (.pointer (some ⟨N,0,none⟩))])∧w.heap.size≤N∧Below w.heap.size w w':=(Any.strconv_Atoi_syntax Tryz.laysC172 s hlim h ev w hv hev).mono (by
 rintro e w' ⟨N,rfl,h1,_,h2⟩
 exact⟨N,rfl,h1,h2⟩)
open Go.RowKit Go.Lib in
theorem Tryz.strconv_Atoi_range (s:ByteArray) (hlim:s.size≤281474976710656) (h:Lib.atoiAll s.data.toList=.range) (ev:Value) (w:World) (hv:w.cell? ⟨5,0,none⟩=some ev) (hev:ev=.nilIface∨∃te pe,ev=.iface te pe) :
    Calls Tryz.prog 151 #[.string s] w fun e w'=>∃N,e=.returned (.tuple #[.int .i64 (Lib.atoiSat s.data.toList),.iface 221 (.pointer (some ⟨N,0,none⟩))])∧w.heap.size≤N∧Below w.heap.size w w':=(Any.strconv_Atoi_range Tryz.laysC172 s hlim h ev w hv hev).mono (by
 rintro e w' ⟨N,rfl,h1,_,h2⟩
 exact⟨N,rfl,h1,h2⟩)
def Tryz.laysM145_ren:Go.Shelf.Ren:=⟨fun|145=>69|220=>92|219=>123|217=>106|225=>146|224=>147|267=>148|266=>131|314=>165|n=>n,fun|9=>9|4=>4|59=>119|3=>3|5=>5|46=>170|146=>191|51=>145|n=>n,fun|1=>0|n=>n⟩
theorem Tryz.laysM145:Go.Proofs.LaysM.n145 Tryz.prog Tryz.laysM145_ren:={
 mixed:=by kernel_rfl
 f145:=Tryz.func69.trans (congrArg some (by kernel_rfl))
 f217:=Tryz.func106.trans (congrArg some (by kernel_rfl))
 f219:=Tryz.func123.trans (congrArg some (by kernel_rfl))
 f220:=Tryz.func92.trans (congrArg some (by kernel_rfl))
 f224:=Tryz.func147.trans (congrArg some (by kernel_rfl))
 f225:=Tryz.func146.trans (congrArg some (by kernel_rfl))
 f266:=Tryz.func131.trans (congrArg some (by kernel_rfl))
 f267:=Tryz.func148.trans (congrArg some (by kernel_rfl))
 f314:=Tryz.func165.trans (congrArg some (by kernel_rfl))
 t3:=Tryz.underlying3
 a3:=Tryz.isAgg3
 z3:=Tryz.sizeOf3
 v3:=Tryz.zeroValue3
 t4:=Tryz.underlying4
 a4:=Tryz.isAgg4
 z4:=Tryz.sizeOf4
 v4:=Tryz.zeroValue4
 t5:=Tryz.underlying5
 a5:=Tryz.isAgg5
 z5:=Tryz.sizeOf5
 v5:=Tryz.zeroValue5
 t9:=Tryz.underlying9
 a9:=Tryz.isAgg9
 z9:=Tryz.sizeOf9
 v9:=Tryz.zeroValue9
 t46:=Tryz.underlying170
 a46:=Tryz.isAgg170
 z46:=Tryz.sizeOf170
 v46:=Tryz.zeroValue170
 t51:=Tryz.underlying145
 a51:=Tryz.isAgg145
 z51:=Tryz.sizeOf145
 v51:=Tryz.zeroValue145
 t59:=Tryz.underlying119
 a59:=Tryz.isAgg119
 z59:=Tryz.sizeOf119
 v59:=Tryz.zeroValue119
 t146:=Tryz.underlying191
 a146:=Tryz.isAgg191
 z146:=Tryz.sizeOf191
 v146:=Tryz.zeroValue191
 g1:=by kernel_rfl
 i3:=by kernel_rfl
 i4:=by kernel_rfl
 i5:=by kernel_rfl
 i9:=by kernel_rfl
 i46:=by kernel_rfl
 i51:=by kernel_rfl
 i59:=by kernel_rfl
 i146:=by kernel_rfl
 m1:=by kernel_rfl
 s1_3:=fun w h=>Go.Proofs.cell_of_shapedOpen_int (zero:=#[.int .i64 0]) (t:=3) h (of_decide_eq_true (by kernel_rfl)) (by kernel_rfl) rfl (by kernel_rfl) (by kernel_rfl) Tryz.underlying3 }
end Go.Proofs
namespace Go.Proofs.YtdcadiaeaclpgaaGreatDoor
open Go Go.RowKit Go.Lib Go.Sort
set_option linter.unusedVariables false
set_option linter.unusedSimpArgs false
set_option maxHeartbeats 1600000
set_option maxRecDepth 1000000
def Errs (w:World):Prop:=(∃ev,w.cell? ⟨4,0,none⟩=some ev∧(ev=.nilIface∨∃te pe,ev=.iface te pe))∧∃ev,w.cell? ⟨5,0,none⟩=some ev∧(ev=.nilIface∨∃te pe,ev=.iface te pe)
theorem Errs.kept {w w':World} (h:Errs w) (hg:w.grownBy w' none):Errs w':=by
 obtain⟨⟨e1,h1,h2⟩,e2,h3,h4⟩:=h
 exact⟨⟨e1,Zd hg h1 (by simp),h2⟩,e2,Zd hg h3 (by simp),h4⟩
theorem Xj (s:ByteArray):bN s=s.data.toList.map UInt8.toNat:=rfl
theorem ZaX (w:World) (t:TypeId) (x:ByteArray):w.grownBy (Lib.bytesWorld w t x) none:=ZG (Lib.bytesWorld_below w t x)
theorem Zfz (s:ByteArray) (hs:s.size≤20000) (w:World) (he:Errs w):Calls Tryz.prog 151 #[.string s] w fun e w'=>w.grownBy w' none∧((∃v,Lib.atoiAll s.data.toList=.ok v∧e=.returned (.tuple #[.int .i64 v,.nilIface]))∨((∀v,Lib.atoiAll s.data.toList≠.ok v)∧∃v t p,e=.returned (.tuple #[.int .i64 v,.iface t (.pointer (some p))]))):=by
 obtain⟨⟨e1,h1,h2⟩,e2,h3,h4⟩:=he
 cases hr:Lib.atoiAll s.data.toList with
 |ok v =>
  refine(Tryz.strconv_Atoi_ok s (by omega) v hr w).mono ?_
  rintro e w' ⟨rfl,hw⟩
  refine⟨?_,.inl ⟨v,rfl,rfl⟩⟩
  rcases hw with rfl|⟨t,rfl⟩
  ·exact grow0 _
  ·exact ZaX _ _ _
 |«syntax» =>
  refine(Tryz.strconv_Atoi_syntax s (by omega) hr e1 w h1 h2).mono ?_
  rintro e w' ⟨N,rfl,_,hb⟩
  exact⟨ZG hb,.inr ⟨(fun v e=>by cases e),_,_,_,rfl⟩⟩
 |range =>
  refine(Tryz.strconv_Atoi_range s (by omega) hr e2 w h3 h4).mono ?_
  rintro e w' ⟨N,rfl,_,hb⟩
  exact⟨ZG hb,.inr ⟨(fun v e=>by cases e),_,_,_,rfl⟩⟩
theorem VM (l:List UInt8) (c:UInt8):(Lib.indexByte l c=-1∧c ∉ l)∨∃i:Nat,Lib.indexByte l c=i∧i<l.length∧l=l.take i++c::l.drop (i+1)∧c ∉ l.take i:=by
 induction l with
 |nil=>exact .inl ⟨rfl,by simp⟩
 |cons b l ih =>
  by_cases hb:b=c
  ·subst hb
   exact .inr ⟨0,by simp [Lib.indexByte],by simp,by simp,by simp⟩
  ·have hb':(b == c)=false:=by simpa using hb
   rcases ih with ⟨h1,h2⟩|⟨i,h1,h2,h3,h4⟩
   ·exact .inl ⟨by simp [Lib.indexByte,hb',h1],by simp [h2];exact fun e=>hb e.symm⟩
   ·refine .inr ⟨i+1,?_,by simpa using h2,?_,?_⟩
    ·have:(Lib.indexByte l c == -1)=false:=by rw [h1];simp
     simp only [Lib.indexByte,hb',this]
     rw [h1]
     simp
    ·rw [List.take_succ_cons,List.drop_succ_cons,List.cons_append,←h3]
    ·rw [List.take_succ_cons]
     simp only [List.mem_cons,not_or]
     exact⟨fun e=>hb e.symm,h4⟩
def CutQ (s a b:ByteArray) (f:Bool):Prop:=(f=true∧bN s=bN a++32::bN b∧∀x∈bN a,x≠32)∨(f=false∧a=s∧b=⟨#[]⟩∧∀x∈bN s,x≠32)
theorem not32 {l:List UInt8} (h:(32:UInt8) ∉ l):∀x∈l.map UInt8.toNat,x≠32:=by
 intro x hx e
 obtain⟨b,hb,rfl⟩:=List.mem_map.1 hx
 have:b=32:=UInt8.toNat_inj.1 e
 exact h (this ▸ hb)
theorem ZdI (s:ByteArray) (hs:s.size≤20000) (w:World) :
    Calls Tryz.prog 92 #[.string s,.string ⟨#[32]⟩] w fun e w'=>∃a b f,e=.returned (.tuple #[.string a,.string b,.bool f])∧CutQ s a b f∧a.size≤s.size∧b.size≤s.size∧w.grownBy w' none:=by
 have HI:Calls Tryz.prog 123 #[.string s,.string ⟨#[32]⟩] w fun e w'=>e=.returned (.int .i64 (Lib.indexByte s.data.toList 32))∧w'=w:=Any.stringslite_Index_one (ρ:=Tryz.laysM145_ren) { Tryz.laysM145 with } s 32 w
 have hsz:s.data.toList.length=s.size:=by rw [Array.length_toList];rfl
 rcases VM s.data.toList 32 with ⟨h1,h2⟩|⟨i,h1,h2,h3,h4⟩
 ·rw [h1]at HI
  have HQ:Hid (CutQ s s ⟨#[]⟩ false):=.inr ⟨rfl,rfl,rfl,not32 h2⟩
  clear h1 h2
  go_enter Tryz.func92,Tryz.ntmps92
  go_wp2_with fail
  refine HI.mono ?_
  rintro e nw ⟨rfl,hw⟩
  obtain rfl:=hw.symm
  clear hw
  go_wp2_with fail
  refine bodyPost_ret (results_tmp3 rfl _ _ _) rfl ?_
  exact⟨_,_,_,rfl,HQ.out,Nat.le_refl _,Nat.zero_le _,grow0 _⟩
 ·rw [h1]at HI
  have hlt:i<s.size:=by rw [←hsz];exact h2
  have e1:(s.extract 0 i).data.toList=s.data.toList.take i:=by simp
  have e2:(s.extract (i+1) s.size).data.toList=s.data.toList.drop (i+1):=by rw [Lib.extract_to_end]
  have HQ:Hid (CutQ s (s.extract 0 i) (s.extract (i+1) s.size) true):=.inl ⟨rfl,by
   have h5:=congrArg (List.map UInt8.toNat) h3
   rw [List.map_append,List.map_cons]at h5
   unfold bN
   rw [e1,e2]
   exact h5,by
   unfold bN
   rw [e1]
   exact not32 h4⟩
  obtain⟨j,hj⟩:∃j,i+1=j:=⟨_,rfl⟩
  rw [hj]at HQ
  have HSz:Hid ((s.extract 0 i).size≤s.size∧(s.extract j s.size).size≤s.size):=by
   show _∧_
   simp [ByteArray.size_extract]
   omega
  have hiI:(i:Int)<s.size:=by omega
  have hi0:(0:Int)≤i:=by omega
  have hile:(i:Int)≤s.size:=by omega
  have hwj:IntKind.i64.wrap ((i:Int)+1)=(j:Int):=by rw [IntKind.wrap_i64];omega
  have hj0:(0:Int)≤j:=by omega
  have hjl:(j:Int)≤s.size:=by omega
  clear h1 h2 h3 h4 e1 e2 hsz hj
  go_enter Tryz.func92,Tryz.ntmps92
  go_wp2_with fail
  refine HI.mono ?_
  rintro e nw ⟨rfl,hw⟩
  obtain rfl:=hw.symm
  clear hw
  go_wp2_with fail
  go_region_held3 (fun _=>True) (trivial) (fail)
  all_goals (
   go_wp2_with fail
   refine bodyPost_ret (results_tmp3 rfl _ _ _) rfl ?_
   exact⟨_,_,_,rfl,HQ.out,HSz.out.1,HSz.out.2,Zf (grow0 _)⟩)
theorem Zed (s:ByteArray) (hs:s.size≤20000) (w:World) :
    Calls Tryz.prog 69 #[.string s,.string ⟨#[32]⟩] w fun e w'=>∃a b f,e=.returned (.tuple #[.string a,.string b,.bool f])∧CutQ s a b f∧a.size≤s.size∧b.size≤s.size∧w.grownBy w' none:=by
 have HC:=ZdI s hs w
 go_enter Tryz.func69,Tryz.ntmps69
 go_wp2_with fail
 refine HC.mono ?_
 rintro e w1 ⟨a,b,f,rfl,h1,h2,h3,h4⟩
 have H:Hid (CutQ s a b f∧a.size≤s.size∧b.size≤s.size∧w.grownBy w1 none):=⟨h1,h2,h3,h4⟩
 clear h1 h2 h3 h4
 go_wp2_with fail
 refine bodyPost_ret (results_tmp3 rfl _ _ _) rfl ?_
 exact⟨_,_,_,rfl,H.out⟩
end Go.Proofs.YtdcadiaeaclpgaaGreatDoor
