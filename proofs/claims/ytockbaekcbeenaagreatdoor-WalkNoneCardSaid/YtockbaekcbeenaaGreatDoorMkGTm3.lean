/-GTm3-/
import Derived.Test.YtockbaekcbeenaaGreatDoorMkHd1
import Derived.Test.YtockbaekcbeenaaGreatDoorMkGTm1
import Derived.Test.YtockbaekcbeenaaGreatDoorMkShelf
import Derived.Lib.LaidU8T
import Derived.Test.YtockbaekcbeenaaGreatDoorMkGTm2
import Derived.Deep.RegionWith
import Derived.Laws.IdiomStrings
set_option linter.unusedVariables false
set_option linter.unusedSimpArgs false
set_option maxRecDepth 100000
set_option maxHeartbeats 2000000
namespace Go.Proofs.YtockbaekcbeenaaGreatDoor
open Go.Proofs.Tryz
open Go.ChangeShapes Go.WideShapes Go.ChangeAt Go.RowKit
def T8 (w:World):Prop:=Lib.Utf8Tabs 0 1 w
theorem T8.keep {w w':World} (h:T8 w) (hb:Below w.heap.size w w'):T8 w':=Utf8Tabs_below h hb
theorem qH (p:List UInt8) (w:World) (hl:p.length≤9223372036854775807) (hT:T8 w) :
  Calls prog 72 #[aA p] w fun e w'=>e=.returned (.bool (Lib.validD p))∧Below w.heap.size w w':=
 (Any.utf8_ValidString Tryz.lays196 ⟨p.toArray⟩ w hl hT).mono fun _ _ h=>h
theorem ZX:∀ c:Fin 128,decide (0≤Lib.indexByte [34,60,62,92,94,96,123,124,125] (c.val.toUInt8))=[34,60,62,92,94,96,123,124,125].contains c.val:=aL
theorem ZY (r:Nat) (w:World) (hr:r≤1114111) :
  Calls prog 200 #[.int .i32 (r:Nat)] w fun e w'=>e=.returned (.bool (Tm.iO r))∧w=w':=by
 have CR:=aj (fun h=>Tryz.strings_ContainsRune_ascii ⟨#[34,60,62,92,94,96,123,124,125]⟩ (r:Int) w ay h);unfold Tm.iO;by_cases h1:160≤r;{go_enter func200,ntmps200;go_wp2;go_ret;exact ⟨by simp [h1],rfl⟩}
 · have b1:decide (160≤r)=false:=decide_eq_false h1;by_cases h2:33≤r
   · by_cases h3:r≤126
     · have h4:=ZX ⟨r,ay⟩;have Av:=CR.out ay;simp only [Int.toNat_natCast] at Av h4;rw [h4] at Av;obtain ⟨b,hb⟩:=aC (([34,60,62,92,94,96,123,124,125]:List Nat).contains r);rw [←hb] at Av;have e:(decide (160≤r) || (decide (33≤r) && decide (r≤126) && !([34,60,62,92,94,96,123,124,125]:List Nat).contains r)) = !b:=(by rw [←hb,b1,decide_eq_true h2,decide_eq_true h3];rfl);rw [e];have Z0:=aj Av;clear Av h4 hb e b1 CR;cases b;all_goals
        go_enter func200,ntmps200
        go_wp2_with (go_at_call 239;refine Z0.out.mono ?_;rintro e w' ⟨rfl,rfl⟩)
        go_ret
        exact ⟨rfl,rfl⟩
     {have b2:decide (r≤126)=false:=decide_eq_false h3;go_enter func200,ntmps200;go_wp2;go_ret;exact ⟨rfl,rfl⟩}
   {have b2:decide (33≤r)=false:=decide_eq_false h2;go_enter func200,ntmps200;go_wp2;go_ret;exact ⟨rfl,rfl⟩}
theorem I6 (p:List UInt8) (w:World) (hl:p.length≤9223372036854775807) (hT:T8 w) :
  Calls prog 162 #[aA p] w fun e w'=>e=.returned (.bool (decide (p.length≤30) && Lib.validD p))∧Below w.heap.size w w':=by have VA:=aj (fun w h=>qH p w hl h);by_cases h:p.length≤30;{rw [decide_eq_true h,Bool.true_and];obtain ⟨b,hb⟩:=aC (Lib.validD p);rw [←hb] at VA ⊢;clear hb;go_enter func162,ntmps162;(go_wp2_with (go_at_call 72;refine (VA.out _ hT).mono ?_;rintro e w' ⟨rfl,hb⟩));go_ret;exact ⟨rfl,hb⟩};{have h':30<p.length:=ay;rw [decide_eq_false h,Bool.false_and];clear h;go_enter func162,ntmps162;go_wp2;go_ret;exact ⟨rfl,Below.refl _ _⟩}
theorem PI {w w':World} (h:Below w.heap.size w w') (s:ByteArray) (pos:Nat):Below w.heap.size w (w'.iter s pos):=h.alloc h.size _
theorem PN (p:List UInt8) (pos:Nat):(Utf8.decode ⟨p.toArray⟩ pos).1≤1114111∧1≤(Utf8.decode ⟨p.toArray⟩ pos).2:=by have e:=Lib.decodeL_drop ⟨p.toArray⟩ pos;simp only at e;rw [←e];exact ⟨Lib.decodeL_rune _,Lib.decodeL_width _⟩
theorem Z4 (p:List UInt8) (pos:Nat) (h:pos<p.length):Tm.lH Tm.iO p.length (p.drop pos)=(Tm.iO (Utf8.decode ⟨p.toArray⟩ pos).1 && Tm.lH Tm.iO p.length (p.drop (pos+(Utf8.decode ⟨p.toArray⟩ pos).2))):=by
 have e:=Lib.decodeL_drop ⟨p.toArray⟩ pos;simp only at e;obtain ⟨n,hn⟩:∃ n,p.length=n+1:=⟨p.length-1,ay⟩;have hne:p.drop pos≠[]:=by intro h0;have:=congrArg List.length h0;simp at this;omega
 have hd:=(PN p pos).2;rw [hn,Tm.Dn _ _ _ hne,e,List.drop_drop,Tm.Nj _ n (n+1) _ (by rw [List.length_drop];omega) (by rw [List.length_drop];omega)]
theorem I7 (p:List UInt8) (w:World) (hl:p.length≤9223372036854775807) (hT:T8 w) :
  Calls prog 160 #[aA p] w fun e w'=>e=.returned (.bool (Tm.fF p))∧Below w.heap.size w w':=by
 have VA:=aj (fun w h=>qH p w hl h);unfold Tm.fF;by_cases h0:p=[];{subst h0;go_enter func160,ntmps160;go_wp2;go_ret;exact ⟨rfl,Below.refl _ _⟩};have h1:1≤p.length:=by have:=List.length_pos_iff.2 h0;omega
 have he:p.isEmpty=false:=by simpa using h0
 rw [decide_eq_true h1,Bool.true_and];by_cases Z5:60<p.length;{rw [decide_eq_false (show ¬ p.length≤60 by omega)];go_enter func160,ntmps160;go_wp2;go_ret;exact ⟨rfl,Below.refl _ _⟩};rw [decide_eq_true (show p.length≤60 by omega),Bool.true_and];cases hv:Lib.validD p;{rw [hv] at VA;clear hv;go_enter func160,ntmps160;(go_wp2_with (go_at_call 72;refine (VA.out _ hT).mono ?_;rintro e w' ⟨rfl,hb⟩));go_ret;exact ⟨rfl,hb⟩}
 · rw [hv] at VA;obtain ⟨ANS,hA⟩:=aC (Tm.lH Tm.iO p.length p);rw [←hA,Bool.true_and];have HA:=aj (show ANS=Tm.lH Tm.iO p.length (p.drop 0) by rw [hA];rfl);clear hv hA;go_enter func160,ntmps160;(go_wp2_with (go_at_call 72;refine (VA.out _ hT).mono ?_;rintro e w1 ⟨rfl,hb⟩));have HB:=aj hb;clear hb;go_loopw [4] (fun s4 wr=>∃ pos:Nat,wr=w1.iter ⟨p.toArray⟩ pos∧Hid (ANS=Tm.lH Tm.iO p.length (p.drop pos))) (fun _ wr=>p.length-wr.iterPos w1.heap.size)
   (case atStart=>exact ⟨0,rfl,HA⟩);case round=>
    obtain ⟨pos,rfl,HP⟩:=hrel;by_cases hlt:pos<p.length
    · have hnx:∀ ty,(Instr.next (.pointer (some ⟨w1.heap.size,0,none⟩)) true ty).run prog (w1.iter ⟨p.toArray⟩ pos)=_:=fun ty=>run_next_any w1 ⟨p.toArray⟩ pos ty hlt;obtain ⟨hr1,hr2⟩:=PN p pos;have HS:=aj (Z4 p pos hlt);obtain ⟨r,hr⟩:=aC ((Utf8.decode ⟨p.toArray⟩ pos).1);obtain ⟨k,hk⟩:=aC ((Utf8.decode ⟨p.toArray⟩ pos).2);rw [←hr] at hnx hr1 HS;rw [←hk] at hnx hr2 HS;have IN:=aj (fun w=>ZY r w hr1);clear hr hk;cases hi:Tm.iO r;{rw [hi] at IN HS;clear hi;(go_wp2_with (go_at_call 200;refine (IN.out _).mono ?_;rintro e w' ⟨rfl,rfl⟩));go_ret;exact ⟨by rw [HP.out,HS.out];rfl,PI HB.out _ _⟩}
      · rw [hi] at IN HS;clear hi;(go_wp2_with (go_at_call 200;refine (IN.out _).mono ?_;rintro e w' ⟨rfl,rfl⟩));go_roundw
        (case rel=>exact ⟨pos+k,rfl,by rw [HP.out,HS.out];rfl⟩);case measure=>simp <;> omega
    {have hnx:∀ ty,(Instr.next (.pointer (some ⟨w1.heap.size,0,none⟩)) true ty).run prog (w1.iter ⟨p.toArray⟩ pos)=_:=fun ty=>run_next_end w1 ⟨p.toArray⟩ pos ty hlt;have HE:=aj (show ANS=true by rw [HP.out,List.drop_eq_nil_of_le ay,Tm.zU]);go_wp2;go_ret;exact ⟨by rw [HE.out];rfl,PI HB.out _ _⟩}
abbrev dV (k:Int) (t x:List UInt8):Value:=.agg #[.int .i64 k,aA t,aA x]
def Tm.show (k:Int) (t x:List UInt8):List UInt8:=if 1≤k∧k≤5 then Tm.aO k.toNat t x else []
theorem Tm.PU {k:Int} (h:k<1∨5<k) (t x:List UInt8):Tm.show k t x=[]:=by unfold Tm.show;rw [if_neg ay]
theorem Tm.Er {k:Nat} (h:1≤k∧k≤5) (t x:List UInt8):Tm.show (k:Int) t x=Tm.aO k t x:=by unfold Tm.show;rw [if_pos ay,Int.toNat_natCast]
theorem gV (a b:List UInt8):(⟨a.toArray⟩++⟨b.toArray⟩:ByteArray)=⟨(a++b).toArray⟩:=by apply ByteArray.ext;rw [ByteArray.data_append];simp
theorem bF {w w':World} {a b c:Value} {t:TypeId} (h:Below (w.alloc (.cells #[a,b,c] t)).heap.size (w.alloc (.cells #[a,b,c] t)) w') :
  w'.cell? ⟨w.heap.size,0,none⟩=some a∧w'.cell? ⟨w.heap.size,1,none⟩=some b∧w'.cell? ⟨w.heap.size,2,none⟩=some c∧Below w.heap.size w w':=by refine ⟨aD h ?_,aD h ?_,aD h ?_,aI ((Below.refl w.heap.size w).alloc aG (.cells #[a,b,c] t)) h⟩;{rw [kK];rfl};{rw [kK];rfl};{rw [kK];rfl}
theorem I8 (W:World) (a b c:Value) (t:TypeId):∃ w2,w2=W.alloc (.cells #[a,b,c] t)∧(∀ p:Later w2.heap.size w2,p.it.cell? ⟨W.heap.size,0,none⟩=some a)∧(∀ p:Later w2.heap.size w2,p.it.cell? ⟨W.heap.size,1,none⟩=some b)∧(∀ p:Later w2.heap.size w2,p.it.cell? ⟨W.heap.size,2,none⟩=some c)∧Hid (Below W.heap.size W w2):=
 ⟨_,rfl,fun p=>(bF p.low).1,fun p=>(bF p.low).2.1,fun p=>(bF p.low).2.2.1,(Below.refl W.heap.size W).alloc aG _⟩
theorem Aw (k:Int) (t x:List UInt8) (W:World) (ht:t.length≤1000000000) (hx:x.length≤1000000000) :
  Calls prog 129 #[dV k t x] W fun e W'=>e=.returned (aA (Tm.show k t x))∧Below W.heap.size W W':=by have QU:=aj (fun W=>ZW t W ht);have hle:=Tm.n_ t;rcases (show k=1∨k=2∨k=3∨k=4∨k=5∨(k<1∨5<k) by omega) with h | h | h | h | h | h;{subst h;go_enter func129,ntmps129;go_wp2;go_ret;exact ⟨by simp [Tm.show,Tm.aO,gV],(Below.refl _ _).alloc aG _⟩};{subst h;go_enter func129,ntmps129;go_wp2;go_ret;exact ⟨by simp [Tm.show,Tm.aO,gV],(Below.refl _ _).alloc aG _⟩};{subst h;go_enter func129,ntmps129;(go_wp2_with (go_at_call 164;refine (QU.out _).mono ?_;rintro e w' ⟨rfl,hb⟩));go_ret;exact ⟨by simp [Tm.show,Tm.aO,gV],((Below.refl _ _).alloc aG _).trans (hb.mono aH)⟩};{subst h;go_enter func129,ntmps129;go_wp2;obtain ⟨w2,hw2,k0,k1,k2,HB⟩:=I8 W (.int .i64 4) (aA t) (aA x) 63;rw [←hw2];clear hw2;refine dP w2.heap.size aF aF ?_;(repeat (go_big_quiet_step ((go_at_call 164;with_reducible exact Later.call aG (QU.out _)))));refine wpQuiet_nil ?_;rintro _ ⟨p,rfl⟩;have HP:=aj (aI HB.out p.low);clear k0 k1 k2;go_wp2;go_ret;exact ⟨by simp [Tm.show,Tm.aO,gV] <;> rfl,HP.out⟩};{subst h;go_enter func129,ntmps129;go_wp2;obtain ⟨w2,hw2,k0,k1,k2,HB⟩:=I8 W (.int .i64 5) (aA t) (aA x) 63;rw [←hw2];clear hw2;refine dP w2.heap.size aF aF ?_;(repeat (go_big_quiet_step ((go_at_call 164;with_reducible exact Later.call aG (QU.out _)))));refine wpQuiet_nil ?_;rintro _ ⟨p,rfl⟩;have HP:=aj (aI HB.out p.low);clear k0 k1 k2;go_wp2;go_ret;exact ⟨by simp [Tm.show,Tm.aO,gV] <;> rfl,HP.out⟩};{have b1:(k==1)=false:=beq_eq_false_iff_ne.2 ay;have b2:(k==2)=false:=beq_eq_false_iff_ne.2 ay;have b3:(k==3)=false:=beq_eq_false_iff_ne.2 ay;have b4:(k==4)=false:=beq_eq_false_iff_ne.2 ay;have b5:(k==5)=false:=beq_eq_false_iff_ne.2 ay;have HS:=aj (Tm.PU h t x);clear h;go_enter func129,ntmps129;go_wp2;go_ret;exact ⟨by rw [HS.out];rfl,(Below.refl _ _).alloc aG _⟩}
theorem PV (a b:List UInt8) (w:World):Calls prog 134 #[aA a,aA b] w fun e w'=>e=.returned (.int .i64 (Tm.cmp a b))∧w=w':=by refine (Tryz.strings_Compare ⟨a.toArray⟩ ⟨b.toArray⟩ w).mono ?_;rintro e w' ⟨he,hw⟩;exact ⟨by rw [he,Tm.Na],hw.symm⟩
def rH (w:World):Prop:=∃ m:Int,w.cell? ⟨2,0,none⟩=some (.int .i64 m)
theorem rH.keep {w w':World} (h:rH w) (hb:Below w.heap.size w w'):rH w':=by obtain ⟨m,hm⟩:=h;exact ⟨m,aD hb hm⟩
def d9 (w:World):Prop:=T8 w∧rH w
theorem d9.keep {w w':World} (h:d9 w) (hb:Below w.heap.size w w'):d9 w':=⟨h.1.keep hb,h.2.keep hb⟩
theorem Tm.PW (c:UInt8):∀ l:List UInt8,∀ x∈Tm.parts c l,x.length≤l.length
 | [],x,h=>by simp [Tm.parts] at h;subst h;simp
 | b::t,x,h=>by
  have ih:=Tm.PW c t
  unfold Tm.parts at h
  obtain ⟨p,r,e⟩:∃ p r,Tm.parts c t=p::r:=by
   cases hp:Tm.parts c t with
   | nil=>exact absurd hp (Tm.Hr c t)
   | cons p r=>exact ⟨p,r,rfl⟩
  rw [e] at h ih
  split at h
  · rcases List.mem_cons.1 h with rfl | h
    · simp
    · have:=ih x h;simp;omega
  · simp only [List.headD_cons,List.tail_cons,List.mem_cons] at h
    rcases h with rfl | h
    · have:=ih p aH;simp;omega
    · have:=ih x (by simp [h]);simp;omega
theorem Z6 (p:List UInt8) (w:World) (hl:p.length<4294967281) (hm:rH w) :
  Calls prog 203 #[aA p,aA [45]] w fun e w'=>(∃ cap,e=.returned (.slice (some ⟨w.heap.size,0,none⟩) (Tm.parts 45 p).length cap)∧iA w' (.slice (some ⟨w.heap.size,0,none⟩) (Tm.parts 45 p).length cap) (Tm.parts 45 p))∧Below w.heap.size w w':=by
 obtain ⟨m,hm⟩:=hm;refine (Tryz.strings_Split ⟨p.toArray⟩ ⟨#[45]⟩ m w hl hm aL).mono ?_;rintro e w' ⟨rfl,rfl⟩;have h1:(Lib.splitB ⟨#[45]⟩ 0 (Lib.countB ⟨p.toArray⟩ ⟨#[45]⟩) ⟨p.toArray⟩).map (·.data.toList)=Tm.parts 45 p:=by rw [Lib.splitB_data,←Tm.V_];rfl
 have h2:Lib.countB ⟨p.toArray⟩ ⟨#[45]⟩+1=(Tm.parts 45 p).length:=by rw [←h1,List.length_map,Lib.splitB_all _ aL 0 _ _ rfl]
 have h3:(Lib.splitB ⟨#[45]⟩ 0 (Lib.countB ⟨p.toArray⟩ ⟨#[45]⟩) ⟨p.toArray⟩).map Value.string=(Tm.parts 45 p).map aA:=by rw [←h1,List.map_map];refine List.map_congr_left fun s _=>?_;show Value.string s=aA s.data.toList;rw [Hq]
 have h4:=Tm.Ht 45 p;have h5:p.count 45≤p.length:=List.count_le_length;rw [h2,h3];refine ⟨⟨_,rfl,dQ.built rfl rfl aH (by unfold maxLen;omega)⟩,(Below.refl _ _).alloc aG _⟩
theorem Tm.Z7 (d:Bool):∀ L:List (List UInt8),Tm.vg d L=true↔∀ j,j<L.length→Tm.mH (if j=0 then d else true) (L.getD j [])=true
 | []=>by simp [Tm.vg]
 | p::r=>by
  unfold Tm.vg
  rw [Bool.and_eq_true,List.all_eq_true]
  constructor
  · rintro ⟨h1,h2⟩ j hj
    cases j with
    | zero=>simpa using h1
    | succ j=>
     have hj':j<r.length:=by simpa using hj
     simpa [List.getD,hj'] using h2 _ (List.getElem_mem hj')
  · intro h
    refine ⟨by simpa using h 0 aH,fun x hx=>?_⟩
    obtain ⟨j,hj,e⟩:=List.mem_iff_getElem.1 hx
    have:=h (j+1) (by simpa using hj)
    simpa [List.getD,hj,e] using this
theorem Z8 (p:List UInt8) (w:World) (hl:p.length≤9223372036854775807) (hm:rH w) :
  Calls prog 163 #[aA p] w fun e w'=>e=.returned (.bool (Tm.lang p))∧Below w.heap.size w w':=by
 rw [Tm.Wd];by_cases h16:16<p.length;{rw [decide_eq_false ay,Bool.false_and];go_enter func163,ntmps163;go_wp2;go_ret;exact ⟨rfl,Below.refl _ _⟩};rw [decide_eq_true ay,Bool.true_and];have SP:=aj (fun w h=>Z6 p w ay h);have hpl:=Tm.PW 45 p;have PX:=aj (fun j=>show ((Tm.parts 45 p).getD j []).length≤16 by
  by_cases hj:j<(Tm.parts 45 p).length;{have:=hpl _ (List.getElem_mem hj);simp [List.getD,hj];omega}
  · simp [List.getD,hj])
 have hn:(Tm.parts 45 p).length≤17:=by rw [Tm.Ht];have:p.count 45≤p.length:=List.count_le_length;omega
 have HP:=aj (Tm.Z7 false (Tm.parts 45 p));obtain ⟨L,hL⟩:=aC (Tm.parts 45 p);rw [←hL] at SP PX HP hn ⊢;clear hpl hL;obtain ⟨n,hnn⟩:=aC L.length;rw [←hnn] at SP HP hn;have jr:=aj hnn;clear hnn;go_enter func163,ntmps163;go_wp2_with (go_at_call 203;refine (SP.out _ hm).mono ?_;rintro e w1 ⟨⟨cap,rfl,hT⟩,hb⟩)
 have HB:=aj hb;have HR:=aj hT.row.2;clear hb hT;go_loop [11,3,4] (fun s11 _ _=>∃ k:Nat,k≤n∧s11=.int .i64 k∧Hid (∀ j,j<k→Tm.mH (if j=0 then false else true) (L.getD j [])=true)) (fun s11 _ _=>n-(intOf s11).toNat)
 case atStart=>exact ⟨0,ay,rfl,fun j hj=>ay⟩
 case round=>
  obtain ⟨k,hk,rfl,HK⟩:=hrel;by_cases hlt:k<n
  · obtain ⟨b,off,hab,hc⟩:=HR.out.get hlt;simp only [Option.some.injEq,Addr.mk.injEq] at hab;obtain ⟨rfl,rfl,_⟩:=hab;have c0:=hc k hlt;rw [Nat.zero_add] at c0;have hx16:=PX.out k;have HX:=aj (show ∀ b,b=Tm.mH (if k=0 then false else true) (L.getD k [])→b=false→Tm.vg false L=false from fun b hb hf=>by rw [Bool.eq_false_iff];intro ht;have:=HP.out.1 ht k hlt;rw [←hb,hf] at this;cases this);have HY:=aj (show Tm.mH (if k=0 then false else true) (L.getD k [])=true→∀ j,j<k+1→Tm.mH (if j=0 then false else true) (L.getD j [])=true from fun ht j hj=>by
     by_cases he:j=k;{rw [he];exact ht}
     · exact HK.out j ay)
    obtain ⟨x,hx⟩:=aC (L.getD k []);rw [←hx] at c0 hx16 HX HY;clear hc hx HK;rcases Nat.eq_zero_or_pos k with h0 | h0
    · subst h0;have PA:=aj (fun w=>Np x false w ay);simp only [if_true] at HX HY;cases hb:Tm.mH false x;{rw [hb] at PA HX;clear hb HY;(go_wp2_with (go_at_call 204;refine (PA.out _).mono ?_;rintro e w' ⟨rfl,hw⟩;subst hw));go_ret;exact ⟨by rw [HX.out _ rfl rfl];rfl,HB.out⟩}
      · rw [hb] at PA HX HY;clear hb;(go_wp2_with (go_at_call 204;refine (PA.out _).mono ?_;rintro e w' ⟨rfl,hw⟩;subst hw));go_round
        (case rel=>exact ⟨1,ay,aN,HY.out (by trivial)⟩);case measure=>simp [intOf];omega
    · have PA:=aj (fun w=>Np x true w ay);rw [if_neg ay] at HX HY;cases hb:Tm.mH true x;{rw [hb] at PA HX;clear hb HY;(go_wp2_with (go_at_call 204;refine (PA.out _).mono ?_;rintro e w' ⟨rfl,hw⟩;subst hw));go_ret;exact ⟨by rw [HX.out _ rfl rfl];rfl,HB.out⟩}
      · rw [hb] at PA HX HY;clear hb;(go_wp2_with (go_at_call 204;refine (PA.out _).mono ?_;rintro e w' ⟨rfl,hw⟩;subst hw));go_round
        (case rel=>exact ⟨k+1,ay,aN,HY.out (by trivial)⟩);case measure=>simp [intOf];omega
  {obtain rfl:k=n:=ay;have HT:=aj (show Tm.vg false L=true from HP.out.2 HK.out);clear HK;go_wp2;go_ret;exact ⟨by rw [HT.out];rfl,HB.out⟩}
def Tm.text (t:List UInt8):Bool:=decide (t.length≤30) && Lib.validD t
def Tm.is (k:Int) (t x:List UInt8):Bool:=
 if k=1 then x.isEmpty && Tm.fF t else if k=2 then x.isEmpty && Tm.label t else if k=3 then x.isEmpty && Tm.text t
 else if k=4 then Tm.lang x && Tm.text t else if k=5 then Tm.fF x && Tm.text t else false
theorem I9 (k:Int) (t x:List UInt8) (w:World) (ht:t.length≤9223372036854775807) (hx:x.length≤9223372036854775807) (hV:d9 w) :
  Calls prog 128 #[dV k t x] w fun e w'=>e=.returned (.bool (Tm.is k t x))∧Below w.heap.size w w':=by have HW:=aj (show Below w.heap.size w (w.alloc (.cells #[.int .i64 k,aA t,aA x] 63)) from (Below.refl _ _).alloc aG _);have HV:=aj (hV.keep HW.out);clear hV;unfold Tm.is;rcases (show k=1∨k=2∨k=3∨k=4∨k=5∨(k≠1∧k≠2∧k≠3∧k≠4∧k≠5) by omega) with h | h | h | h | h | h;{subst h;rw [if_pos rfl];have C:=aj (fun w h=>I7 t w ht h);obtain ⟨b,hb⟩:=aC (Tm.fF t);rw [←hb] at C ⊢;clear hb;by_cases h0:x=[];{subst h0;go_enter func128,ntmps128;(go_wp2_with (go_at_call 160;refine (C.out _ HV.out.1).mono ?_;rintro e w' ⟨rfl,hb⟩));go_ret;exact ⟨rfl,(bF hb).2.2.2⟩};{have h1:x.isEmpty=false:=(by simpa using h0);rw [h1,Bool.false_and];go_enter func128,ntmps128;go_wp2;go_ret;exact ⟨rfl,HW.out⟩}};{subst h;rw [if_neg aL,if_pos rfl];have C:=aj (fun w=>Wy t w ht);obtain ⟨b,hb⟩:=aC (Tm.label t);rw [←hb] at C ⊢;clear hb;by_cases h0:x=[];{subst h0;go_enter func128,ntmps128;(go_wp2_with (go_at_call 161;refine (C.out _).mono ?_;rintro e w' ⟨rfl,hw⟩;subst hw));go_ret;exact ⟨rfl,HW.out⟩};{have h1:x.isEmpty=false:=(by simpa using h0);rw [h1,Bool.false_and];go_enter func128,ntmps128;go_wp2;go_ret;exact ⟨rfl,HW.out⟩}};{subst h;rw [if_neg aL,if_neg aL,if_pos rfl];have C:=aj (fun w h=>I6 t w ht h);obtain ⟨b,hb⟩:=aC (Tm.text t);rw [show (decide (t.length≤30) && Lib.validD t)=b from hb.symm] at C;rw [←hb];clear hb;by_cases h0:x=[];{subst h0;go_enter func128,ntmps128;(go_wp2_with (go_at_call 162;refine (C.out _ HV.out.1).mono ?_;rintro e w' ⟨rfl,hb⟩));go_ret;exact ⟨rfl,(bF hb).2.2.2⟩};{have h1:x.isEmpty=false:=(by simpa using h0);rw [h1,Bool.false_and];go_enter func128,ntmps128;go_wp2;go_ret;exact ⟨rfl,HW.out⟩}};{subst h;rw [if_neg aL,if_neg aL,if_neg aL,if_pos rfl];have C:=aj (fun w h=>I6 t w ht h);have D:=aj (fun w h=>Z8 x w hx h);obtain ⟨b,hb⟩:=aC (Tm.text t);rw [show (decide (t.length≤30) && Lib.validD t)=b from hb.symm] at C;rw [←hb];obtain ⟨d,hd⟩:=aC (Tm.lang x);rw [←hd] at D ⊢;clear hb hd;cases d;{go_enter func128,ntmps128;(go_wp2_with (go_at_call 163;refine (D.out _ HV.out.2).mono ?_;rintro e w' ⟨rfl,hb⟩));go_ret;exact ⟨rfl,(bF hb).2.2.2⟩};{go_enter func128,ntmps128;(go_wp2_with fail);refine (D.out _ HV.out.2).mono ?_;rintro e w' ⟨rfl,hb⟩;obtain ⟨k0,k1,k2,hB⟩:=bF hb;have dK:=aj (HV.out.keep hb);have HB:=aj hB;clear hb hB;(go_wp2_with (go_at_call 162;refine (C.out _ dK.out.1).mono ?_;rintro e w2 ⟨rfl,hb⟩));go_ret;exact ⟨rfl,aI HB.out hb⟩}};{subst h;rw [if_neg aL,if_neg aL,if_neg aL,if_neg aL,if_pos rfl];have C:=aj (fun w h=>I6 t w ht h);have D:=aj (fun w h=>I7 x w hx h);obtain ⟨b,hb⟩:=aC (Tm.text t);rw [show (decide (t.length≤30) && Lib.validD t)=b from hb.symm] at C;rw [←hb];obtain ⟨d,hd⟩:=aC (Tm.fF x);rw [←hd] at D ⊢;clear hb hd;cases d;{go_enter func128,ntmps128;(go_wp2_with (go_at_call 160;refine (D.out _ HV.out.1).mono ?_;rintro e w' ⟨rfl,hb⟩));go_ret;exact ⟨rfl,(bF hb).2.2.2⟩};{go_enter func128,ntmps128;(go_wp2_with fail);refine (D.out _ HV.out.1).mono ?_;rintro e w' ⟨rfl,hb⟩;obtain ⟨k0,k1,k2,hB⟩:=bF hb;have dK:=aj (HV.out.keep hb);have HB:=aj hB;clear hb hB;(go_wp2_with (go_at_call 162;refine (C.out _ dK.out.1).mono ?_;rintro e w2 ⟨rfl,hb⟩));go_ret;exact ⟨rfl,aI HB.out hb⟩}};{obtain ⟨h1,h2,h3,h4,h5⟩:=h;rw [if_neg h1,if_neg h2,if_neg h3,if_neg h4,if_neg h5];have b1:(k==1)=false:=beq_eq_false_iff_ne.2 h1;have b2:(k==2)=false:=beq_eq_false_iff_ne.2 h2;have b3:(k==3)=false:=beq_eq_false_iff_ne.2 h3;have b4:(k==4)=false:=beq_eq_false_iff_ne.2 h4;have b5:(k==5)=false:=beq_eq_false_iff_ne.2 h5;clear h1 h2 h3 h4 h5;go_enter func128,ntmps128;go_wp2;go_ret;exact ⟨rfl,HW.out⟩}
theorem Z9 (r:Nat) (w:World) (h:r=34∨r=60∨r=62∨r=92∨r=94∨r=96∨r=123∨r=124∨r=125) :
  Calls prog 93 #[.int .i32 (r:Nat)] w fun e w'=>e=.returned (.bool false)∧w=w':=by
 rcases h with rfl | rfl | rfl | rfl | rfl | rfl | rfl | rfl | rfl;all_goals
  go_enter func93,ntmps93
  go_wp2
  go_ret
  exact ⟨rfl,rfl⟩
theorem Z_ (r:Nat) (w:World) :
  Calls prog 93 #[.int .i32 (r:Nat)] w fun e w'=>e=.returned (.bool (Tm.iO r))∧w=w':=by
 by_cases h:r=34∨r=60∨r=62∨r=92∨r=94∨r=96∨r=123∨r=124∨r=125
 · have e:Tm.iO r=false:=by rcases h with rfl | rfl | rfl | rfl | rfl | rfl | rfl | rfl | rfl <;> decide
   rw [e];exact Z9 r w h
 · have hh:r≠34∧r≠60∧r≠62∧r≠92∧r≠94∧r≠96∧r≠123∧r≠124∧r≠125:=ay;obtain ⟨h1,h2,h3,h4,h5,h6,h7,h8,h9⟩:=hh;have e:Tm.iO r=(decide (33≤r∧r≤126) || decide (160≤r)):=(by unfold Tm.iO;have:([34,60,62,92,94,96,123,124,125]:List Nat).contains r=false:=(by simp [h1,h2,h3,h4,h5,h6,h7,h8,h9]);rw [this,Bool.not_false,Bool.and_true,Bool.or_comm];congr 1;by_cases a:33≤r <;> by_cases b:r≤126 <;> simp [a,b]);rw [e];have b1:((r:Int)==34)=false:=beq_eq_false_iff_ne.2 ay;have b2:((r:Int)==60)=false:=beq_eq_false_iff_ne.2 ay;have b3:((r:Int)==62)=false:=beq_eq_false_iff_ne.2 ay;have b4:((r:Int)==92)=false:=beq_eq_false_iff_ne.2 ay;have b5:((r:Int)==94)=false:=beq_eq_false_iff_ne.2 ay;have b6:((r:Int)==96)=false:=beq_eq_false_iff_ne.2 ay;have b7:((r:Int)==123)=false:=beq_eq_false_iff_ne.2 ay;have b8:((r:Int)==124)=false:=beq_eq_false_iff_ne.2 ay;have b9:((r:Int)==125)=false:=beq_eq_false_iff_ne.2 ay;clear h h1 h2 h3 h4 h5 h6 h7 h8 h9 e;rcases (show r<33∨(33≤r∧r≤126)∨(126<r∧r<160)∨160≤r by omega) with h | ⟨h,h'⟩ | ⟨h,h'⟩ | h;all_goals
    go_enter func93,ntmps93
    go_wp2
    go_ret
    refine ⟨iN ?_,rfl⟩
    rw [Bool.eq_iff_iff]
    all_goals (simp <;> omega)
def Tm.runes:Nat→List UInt8→List Nat
 | 0,_=>[]
 | _+1,[]=>[]
 | n+1,b::t=>(Lib.decodeL (b::t)).1::Tm.runes n ((b::t).drop (Lib.decodeL (b::t)).2)
theorem Tm.PY (f:Nat→Bool):∀ (n:Nat) (l:List UInt8),Tm.lH f n l=(Tm.runes n l).all f
 | 0,_=>rfl
 | _+1,[]=>rfl
 | n+1,b::t=>by rw [Tm.lH,Tm.PY f n];rfl
theorem Tm.PZ:∀ (n:Nat) (l:List UInt8),(Tm.runes n l).length≤n
 | 0,_=>by simp [Tm.runes]
 | _+1,[]=>by simp [Tm.runes]
 | n+1,b::t=>by have:=Tm.PZ n ((b::t).drop (Lib.decodeL (b::t)).2);rw [Tm.runes,List.length_cons];omega
def qI (r:Nat):Value:=.int .i32 (r:Nat)
theorem P5 (l:List UInt8):∀ (n i:Nat) (acc:Array Value),Conv.runesFrom ⟨l.toArray⟩ n i acc=acc++((Tm.runes n (l.drop i)).map qI).toArray
 | 0,i,acc=>by simp [Conv.runesFrom,Tm.runes]
 | n+1,i,acc=>by
  unfold Conv.runesFrom
  by_cases h:i<l.length
  · have e:=Lib.decodeL_drop ⟨l.toArray⟩ i
    simp only at e
    rw [if_pos (show i<(⟨l.toArray⟩:ByteArray).size from h)]
    have hne:l.drop i≠[]:=by intro h0;have:=congrArg List.length h0;simp at this;omega
    obtain ⟨b,t,hbt⟩:∃ b t,l.drop i=b::t:=by
     cases hd:l.drop i with
     | nil=>exact absurd hd hne
     | cons b t=>exact ⟨b,t,rfl⟩
    simp only
    rw [P5 l n,hbt,Tm.runes,←hbt,List.drop_drop,e]
    simp [qI]
  · rw [if_neg (show ¬ i<(⟨l.toArray⟩:ByteArray).size from h),List.drop_eq_nil_of_le ay]
    simp [Tm.runes]
theorem I_ (p:List UInt8) (w:World) (hl:p.length≤9223372036854775807) (hT:T8 w) :
  Calls prog 71 #[aA p] w fun e w'=>e=.returned (.bool (Tm.fF p))∧Below w.heap.size w w':=by
 have VA:=aj (fun w h=>qH p w hl h);unfold Tm.fF;cases hv:Lib.validD p;{rw [hv] at VA;rw [Bool.and_false,Bool.false_and];clear hv;go_enter func71,ntmps71;(go_wp2_with (go_at_call 72;refine (VA.out _ hT).mono ?_;rintro e w' ⟨rfl,hb⟩));go_ret;exact ⟨rfl,hb⟩};rw [hv] at VA;clear hv;by_cases h1:p.length<1;{rw [decide_eq_false ay];go_enter func71,ntmps71;(go_wp2_with (go_at_call 72;refine (VA.out _ hT).mono ?_;rintro e w' ⟨rfl,hb⟩));go_ret;exact ⟨rfl,hb⟩};have h1':1≤p.length:=ay;rw [decide_eq_true h1',Bool.true_and];by_cases Z5:60<p.length;{rw [decide_eq_false (show ¬ p.length≤60 by omega)];go_enter func71,ntmps71;(go_wp2_with (go_at_call 72;refine (VA.out _ hT).mono ?_;rintro e w' ⟨rfl,hb⟩));go_ret;exact ⟨rfl,hb⟩};rw [decide_eq_true (show p.length≤60 by omega),Bool.true_and,Bool.true_and,Tm.PY];have hrl:=Tm.PZ p.length p;have CV:∀ W,Hid (∃ cap,(convert 9 174 (aA p)).run prog W=.ok (.slice (some ⟨W.heap.size,0,none⟩) (Tm.runes p.length p).length cap) (W.drew.alloc (.cells (((Tm.runes p.length p).map qI).toArray++Array.replicate (cap-(Tm.runes p.length p).length) (.int .i32 0)) 21))∧(Tm.runes p.length p).length≤cap):=fun W=>by
  have e:=P5 p p.length 0 #[];have e2:Conv.runesFrom ⟨p.toArray⟩ (⟨p.toArray⟩:ByteArray).size 0 #[]=((Tm.runes p.length p).map qI).toArray:=by show Conv.runesFrom ⟨p.toArray⟩ p.length 0 #[]=_;rw [e];simp
  have h:=run_runes_of_string (P:=prog) W 9 174 21 ⟨p.toArray⟩ underlying9 underlying174 underlying21 (by rw [e2];simp;omega);rw [e2] at h;have hs:((Tm.runes p.length p).map qI).toArray.size=(Tm.runes p.length p).length:=aH;rw [hs] at h;exact ⟨_,h,grownCap_ge _ _ _ _⟩
 obtain ⟨R,hR⟩:=aC (Tm.runes p.length p);rw [←hR] at CV hrl ⊢;clear hR;obtain ⟨n,hn⟩:=aC R.length;have HN:=aj hn;rw [←hn] at CV hrl;clear hn;go_enter func71,ntmps71;go_wp2_with fail
 refine (VA.out _ hT).mono ?_;rintro e w1 ⟨rfl,hb⟩;obtain ⟨cap,cv,hcap⟩:=(CV w1).out;have HB:=aj (show Below w.heap.size w (w1.drew.alloc (.cells ((R.map qI).toArray++Array.replicate (cap-n) (.int .i32 0)) 21)) from (hb.drew).alloc hb.size _);have HC:=aj (fun i (hi:i<n)=>show (w1.drew.alloc (.cells ((R.map qI).toArray++Array.replicate (cap-n) (.int .i32 0)) 21)).cell? ⟨w1.heap.size,i,none⟩=some (.int .i32 ((R.getD i 0:Nat):Int)) by
  have hi':i<R.length:=by have:=HN.out;omega
  have:=kK w1.drew ((R.map qI).toArray++Array.replicate (cap-n) (.int .i32 0)) 21 (0,0) i;rw [show w1.drew.heap.size=w1.heap.size from rfl] at this;rw [this,Array.getElem?_append_left (by simpa using hi')];simp [List.getD,hi',qI])
 obtain ⟨w2,hw2⟩:=aC (w1.drew.alloc (.cells ((R.map qI).toArray++Array.replicate (cap-n) (.int .i32 0)) 21));rw [←hw2] at cv HB HC;clear CV hb hw2;go_wp2;go_loop [4] (fun s4=>∃ k:Nat,k≤n∧s4=.int .i64 k∧Hid ((R.take k).all Tm.iO=true)) (fun s4=>n-(intOf s4).toNat)
 case atStart=>exact ⟨0,ay,rfl,by simp [Hid]⟩
 case round=>
  obtain ⟨k,hk,rfl,HK⟩:=hrel;by_cases hlt:k<n
  · have c0:=HC.out k hlt;have hkr:k<R.length:=(by have:=HN.out;omega);have HS:=aj (show ∀ b,Tm.iO (R.getD k 0)=b→((b=true→(R.take (k+1)).all Tm.iO=true)∧(b=false→R.all Tm.iO=false)) from fun b hb=>by
     have e:R.getD k 0=R[k]:=(by simp [List.getD,hkr]);rw [e] at hb;refine ⟨fun h=>?_,fun h=>?_⟩;{rw [List.take_add_one,List.getElem?_eq_getElem hkr,List.all_append,HK.out];simp [hb,h]}
     · rw [List.all_eq_false];exact ⟨R[k],List.getElem_mem hkr,by rw [hb,h];simp⟩)
    obtain ⟨x,hx⟩:=aC (R.getD k 0);rw [←hx] at c0 HS;have RR:=aj (fun w=>Z_ x w);clear hx HK hkr;cases hb:Tm.iO x;{rw [hb] at RR;have HF:=aj ((HS.out _ hb).2 rfl);clear hb HS;(go_wp2_with (go_at_call 93;refine (RR.out _).mono ?_;rintro e w' ⟨rfl,rfl⟩));go_ret;exact ⟨by rw [HF.out];rfl,HB.out⟩}
    · rw [hb] at RR;have HF:=aj ((HS.out _ hb).1 rfl);clear hb HS;(go_wp2_with (go_at_call 93;refine (RR.out _).mono ?_;rintro e w' ⟨rfl,rfl⟩));go_round
      (case rel=>exact ⟨k+1,ay,aN,HF⟩);case measure=>simp [intOf];omega
  {have HF:=aj (show R.all Tm.iO=true by have h:=HK.out;rwa [List.take_of_length_le (by have:=HN.out;omega)] at h);clear HK;go_wp2;go_ret;exact ⟨by rw [HF.out];rfl,HB.out⟩}
theorem aac (s:List UInt8) (i n:Nat) (d:Bool) (c:UInt8) (h:s[i]?=some c):Tm.pass d n (s.drop i) =
  if c=45∧1≤n then Tm.pass true 0 (s.drop (i+1)) else if Tm.small c || (Tm.digit c && d) then (if 8<n+1 then false else Tm.pass d (n+1) (s.drop (i+1))) else false:=by obtain ⟨hl,e⟩:=List.getElem?_eq_some_iff.1 h;rw [List.drop_eq_getElem_cons hl,e,Tm.pass]
theorem vP (c:UInt8) (n k:Nat) (ANS:Bool) {s s':List UInt8} (hs:Tm.pass (decide (0<k)) n s=if c=45∧1≤n then Tm.pass true 0 s' else if Tm.small c || (Tm.digit c && decide (0<k)) then (if 8<n+1 then false else Tm.pass (decide (0<k)) (n+1) s') else false)
  (h:ANS=Tm.pass (decide (0<k)) n s) (hc:(¬ (c.toNat=45∧1≤n)∧¬ (97≤c.toNat∧c.toNat≤122)∧¬ (48≤c.toNat∧c.toNat≤57∧1≤k))∨(c.toNat≠45∧n=8)):ANS=false:=by
 have e45:¬ (c=45∧1≤n):=by rintro ⟨rfl,hn⟩;rcases hc with ⟨h1,_⟩ | ⟨h1,_⟩;{exact h1 ⟨rfl,hn⟩};{exact h1 rfl}
 rw [h,hs,if_neg e45];rcases hc with ⟨_,h2,h3⟩ | ⟨_,h8⟩;{rw [if_neg];unfold Tm.small Tm.digit;simp only [Bool.or_eq_true,Bool.and_eq_true,decide_eq_true_eq];omega};{split;{rw [if_pos ay]};{rfl}}
theorem P6 (c:UInt8) (n k:Nat) (ANS:Bool) {s s':List UInt8} (hs:Tm.pass (decide (0<k)) n s=if c=45∧1≤n then Tm.pass true 0 s' else if Tm.small c || (Tm.digit c && decide (0<k)) then (if 8<n+1 then false else Tm.pass (decide (0<k)) (n+1) s') else false)
  (h:ANS=Tm.pass (decide (0<k)) n s) (hc:(97≤c.toNat∧c.toNat≤122)∨(48≤c.toNat∧c.toNat≤57∧1≤k)) (hn:n<8):ANS=Tm.pass (decide (0<k)) (n+1) s':=by
 have e45:¬ (c=45∧1≤n):=by rintro ⟨rfl,hn⟩;rcases hc with h | h;{exact absurd h.1 aL};{exact absurd h.1 aL}
 have e2:(Tm.small c || (Tm.digit c && decide (0<k)))=true:=by unfold Tm.small Tm.digit;simp only [Bool.or_eq_true,Bool.and_eq_true,decide_eq_true_eq];omega
 rw [h,hs,if_neg e45,if_pos e2,if_neg ay]
theorem aad (c:UInt8) (n k:Nat) (ANS:Bool) {s s':List UInt8} (hs:Tm.pass (decide (0<k)) n s=if c=45∧1≤n then Tm.pass true 0 s' else if Tm.small c || (Tm.digit c && decide (0<k)) then (if 8<n+1 then false else Tm.pass (decide (0<k)) (n+1) s') else false)
  (h:ANS=Tm.pass (decide (0<k)) n s) (hc:c.toNat=45) (hn:1≤n):ANS=Tm.pass (decide (0<k+1)) 0 s':=by rw [h,hs,if_pos ⟨UInt8.toNat_inj.1 hc,hn⟩,decide_eq_true (show 0<k+1 by omega)]
theorem aae (p:List UInt8) (w:World) (hl:p.length≤9223372036854775807) :
  Calls prog 74 #[aA p] w fun e w'=>e=.returned (.bool (Tm.lang p))∧∃ q,w'=w.drewN q:=by
 obtain ⟨ANS,hA⟩:=aC (Tm.pass false 0 p);unfold Tm.lang;rw [←hA];have HA:=aj (show ANS=Tm.pass (decide (0<0)) 0 (p.drop 0) from hA);clear hA;go_enter func74,ntmps74;go_wp2;go_loopw [3,4,5,6,7,34] (fun s3 s4 s5 _ _ _ wr=>∃ (k n i:Nat),s3=.int .i64 k∧s4=.int .i64 n∧s5=.int .i64 i∧i≤p.length∧k≤i∧n≤8∧Hid (ANS=Tm.pass (decide (0<k)) n (p.drop i))∧Hid (∃ q,wr=w.drewN q)) (fun _ _ s5 _ _ _ _=>p.length-(intOf s5).toNat)
 case atStart=>exact ⟨0,0,0,rfl,rfl,rfl,ay,ay,ay,HA,0,rfl⟩
 case round=>
  obtain ⟨k,n,i,rfl,rfl,rfl,hi,hk,hn,HP,HQ⟩:=hrel;by_cases hlt:i<p.length
  · obtain ⟨c,hc⟩:∃ c,p[i]?=some c:=⟨_,List.getElem?_eq_getElem hlt⟩;have hcc:=fun q=>nY p i c hc q;have HS:=aj (aac p i n (decide (0<k)) c hc);obtain ⟨q0,hq0⟩:=HQ.out;subst hq0;clear hc;rcases (show (c.toNat<48∧c.toNat≠45)∨(c.toNat=45∧n=0)∨(c.toNat=45∧1≤n)∨((48≤c.toNat∧c.toNat≤57)∧k=0)∨((48≤c.toNat∧c.toNat≤57)∧1≤k∧n=8)∨((48≤c.toNat∧c.toNat≤57)∧1≤k∧n<8)∨(57<c.toNat∧c.toNat<97)∨((97≤c.toNat∧c.toNat≤122)∧n=8)∨((97≤c.toNat∧c.toNat≤122)∧n<8)∨122<c.toNat by omega) with h | h | h | h | h | h | h | h | h | h;{have HF:=aj (vP c n k ANS HS.out HP.out (.inl ay));have g1:decide ((97:Int)≤(c.toNat:Int))=false:=(by simp <;> omega);have g3:decide ((48:Int)≤(c.toNat:Int))=false:=(by simp <;> omega);have b1:((c.toNat:Int)==45)=false:=beq_eq_false_iff_ne.2 ay;clear h HS HP;go_wp2;(go_quiet (fail));go_wp2;go_ret;exact ⟨by rw [HF.out];rfl,q0+nq,by first | rfl | rw [World.drewN_drewN]⟩};{have HF:=aj (vP c n k ANS HS.out HP.out (.inl ay));have g1:decide ((97:Int)≤(c.toNat:Int))=false:=(by simp <;> omega);have g3:decide ((48:Int)≤(c.toNat:Int))=false:=(by simp <;> omega);have b1:((c.toNat:Int)==45)=true:=beq_iff_eq.2 ay;obtain rfl:n=0:=ay;clear h HS HP;go_wp2;(go_quiet (fail));go_wp2;go_ret;exact ⟨by rw [HF.out];rfl,q0+nq,by first | rfl | rw [World.drewN_drewN]⟩}
    · have HF:=aj (aad c n k ANS HS.out HP.out ay ay);have g1:decide ((97:Int)≤(c.toNat:Int))=false:=(by simp <;> omega);have g3:decide ((48:Int)≤(c.toNat:Int))=false:=(by simp <;> omega);have b1:((c.toNat:Int)==45)=true:=beq_iff_eq.2 ay;have g5:decide (0<n)=true:=(by simp <;> omega);have g5z:(0:Int)<(n:Int):=ay;clear h HS HP;go_wp2;(go_quiet (fail));go_wp2;go_roundw
      (case rel=>exact ⟨k+1,0,i+1,aN,aN,aN,ay,ay,ay,HF,q0+nq,by first | rfl | rw [World.drewN_drewN]⟩);case measure=>simp [intOf];omega
    {have HF:=aj (vP c n k ANS HS.out HP.out (.inl ay));have g1:decide ((97:Int)≤(c.toNat:Int))=false:=(by simp <;> omega);have g3:decide ((48:Int)≤(c.toNat:Int))=true:=(by simp <;> omega);have g4:decide ((c.toNat:Int)≤57)=true:=(by simp <;> omega);have b1:((c.toNat:Int)==45)=false:=beq_eq_false_iff_ne.2 ay;obtain rfl:k=0:=ay;clear h HS HP;go_wp2;(go_quiet (fail));go_wp2;go_ret;exact ⟨by rw [HF.out];rfl,q0+nq,by first | rfl | rw [World.drewN_drewN]⟩};{have HF:=aj (vP c n k ANS HS.out HP.out (.inr ay));have g1:decide ((97:Int)≤(c.toNat:Int))=false:=(by simp <;> omega);have g3:decide ((48:Int)≤(c.toNat:Int))=true:=(by simp <;> omega);have g4:decide ((c.toNat:Int)≤57)=true:=(by simp <;> omega);have b1:((c.toNat:Int)==45)=false:=beq_eq_false_iff_ne.2 ay;have g6:decide (0<k)=true:=(by simp <;> omega);have g6z:(0:Int)<(k:Int):=ay;obtain rfl:n=8:=ay;clear h HS HP;go_wp2;(go_quiet (fail));go_wp2;go_ret;exact ⟨by rw [HF.out];rfl,q0+nq,by first | rfl | rw [World.drewN_drewN]⟩}
    · have HF:=aj (P6 c n k ANS HS.out HP.out ay ay);have g1:decide ((97:Int)≤(c.toNat:Int))=false:=(by simp <;> omega);have g3:decide ((48:Int)≤(c.toNat:Int))=true:=(by simp <;> omega);have g4:decide ((c.toNat:Int)≤57)=true:=(by simp <;> omega);have b1:((c.toNat:Int)==45)=false:=beq_eq_false_iff_ne.2 ay;have g6:decide (0<k)=true:=(by simp <;> omega);have g6z:(0:Int)<(k:Int):=ay;have g7:n<8:=ay;clear h HS HP;go_wp2;(go_quiet (fail));go_wp2;go_roundw
      (case rel=>exact ⟨k,n+1,i+1,aN,aN,aN,ay,ay,ay,HF,q0+nq,by first | rfl | rw [World.drewN_drewN]⟩);case measure=>simp [intOf];omega
    {have HF:=aj (vP c n k ANS HS.out HP.out (.inl ay));have g1:decide ((97:Int)≤(c.toNat:Int))=false:=(by simp <;> omega);have g3:decide ((48:Int)≤(c.toNat:Int))=true:=(by simp <;> omega);have g4:decide ((c.toNat:Int)≤57)=false:=(by simp <;> omega);have b1:((c.toNat:Int)==45)=false:=beq_eq_false_iff_ne.2 ay;clear h HS HP;go_wp2;(go_quiet (fail));go_wp2;go_ret;exact ⟨by rw [HF.out];rfl,q0+nq,by first | rfl | rw [World.drewN_drewN]⟩};{have HF:=aj (vP c n k ANS HS.out HP.out (.inr ay));have g1:decide ((97:Int)≤(c.toNat:Int))=true:=(by simp <;> omega);have g2:decide ((c.toNat:Int)≤122)=true:=(by simp <;> omega);have g3:decide ((48:Int)≤(c.toNat:Int))=true:=(by simp <;> omega);have g4:decide ((c.toNat:Int)≤57)=false:=(by simp <;> omega);have b1:((c.toNat:Int)==45)=false:=beq_eq_false_iff_ne.2 ay;obtain rfl:n=8:=ay;clear h HS HP;go_wp2;(go_quiet (fail));go_wp2;go_ret;exact ⟨by rw [HF.out];rfl,q0+nq,by first | rfl | rw [World.drewN_drewN]⟩}
    · have HF:=aj (P6 c n k ANS HS.out HP.out ay ay);have g1:decide ((97:Int)≤(c.toNat:Int))=true:=(by simp <;> omega);have g2:decide ((c.toNat:Int)≤122)=true:=(by simp <;> omega);have g3:decide ((48:Int)≤(c.toNat:Int))=true:=(by simp <;> omega);have g4:decide ((c.toNat:Int)≤57)=false:=(by simp <;> omega);have b1:((c.toNat:Int)==45)=false:=beq_eq_false_iff_ne.2 ay;have g7:n<8:=ay;clear h HS HP;go_wp2;(go_quiet (fail));go_wp2;go_roundw
      (case rel=>exact ⟨k,n+1,i+1,aN,aN,aN,ay,ay,ay,HF,q0+nq,by first | rfl | rw [World.drewN_drewN]⟩);case measure=>simp [intOf];omega
    {have HF:=aj (vP c n k ANS HS.out HP.out (.inl ay));have g1:decide ((97:Int)≤(c.toNat:Int))=true:=(by simp <;> omega);have g2:decide ((c.toNat:Int)≤122)=false:=(by simp <;> omega);have g3:decide ((48:Int)≤(c.toNat:Int))=true:=(by simp <;> omega);have g4:decide ((c.toNat:Int)≤57)=false:=(by simp <;> omega);have b1:((c.toNat:Int)==45)=false:=beq_eq_false_iff_ne.2 ay;clear h HS HP;go_wp2;(go_quiet (fail));go_wp2;go_ret;exact ⟨by rw [HF.out];rfl,q0+nq,by first | rfl | rw [World.drewN_drewN]⟩}
  {obtain rfl:i=p.length:=ay;have HF:=aj (show ANS=decide (1≤n) by rw [HP.out,List.drop_length];rfl);obtain ⟨q0,hq0⟩:=HQ.out;subst hq0;clear HP;by_cases h0:n=0;{subst h0;go_wp2;go_ret;exact ⟨by rw [HF.out];rfl,q0,rfl⟩};{have g5:decide (0<n)=true:=(by simp <;> omega);have g5z:(0:Int)<(n:Int):=ay;have rJ:=aj (show ANS=true by rw [HF.out];simp;omega);clear h0 HF;go_wp2;go_ret;refine ⟨?_,q0,rfl⟩;rw [rJ.out,Bool.true_and];refine iN ?_;rw [decide_eq_decide];omega}}
end Go.Proofs.YtockbaekcbeenaaGreatDoor
