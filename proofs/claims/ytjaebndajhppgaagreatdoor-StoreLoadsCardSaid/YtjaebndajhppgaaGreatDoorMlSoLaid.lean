/-SoLaid-/
import Derived.Test.YtjaebndajhppgaaGreatDoorMlHd1
import Derived.Test.YtjaebndajhppgaaGreatDoorMlSoParseM
import Derived.Test.YtjaebndajhppgaaGreatDoorMlLnOne3
import Derived.Test.YtjaebndajhppgaaGreatDoorMlGHx
import Derived.Test.YtjaebndajhppgaaGreatDoorCards
import Derived.Test.YtjaebndajhppgaaGreatDoorTie
import Derived.MakeChecks
import Derived.Lay
import Derived.LaidLaws
import Derived.Lib.LaidU8T
set_option linter.unusedVariables false
set_option linter.unusedSimpArgs false
set_option maxRecDepth 100000
set_option maxHeartbeats 8000000
namespace Go.Proofs.YtjaebndajhppgaaGreatDoor
open Go.Proofs.Tryz
open Go.ChangeShapes Go.WideShapes Go.ChangeAt Go.RowKit
theorem adJ (s:List UInt8) (w:World) (h:20000<s.length) (hl:s.length≤9223372036854775807) :
  Calls prog 44 #[str s] w fun e w'=>e=.returned (.tuple #[.slice none 0 0,.int .i64 0,.int .i64 4])∧Below w.heap.size w w':=by
 have hz:(20000:Int)<(s.length:Int):=aj;go_enter func44,ntmps44;go_wp2;go_ret3
 exact ⟨rfl,Below.refl _ _⟩
theorem adK (s:List UInt8) (w:World) (hV:Vars w) (hl:s.length≤20000) (R:Nat×Nat×List TR) (nV:Tm.f_ s 0 []=R) :
  Calls prog 44 #[str s] w (FV w R):=by
 have HV:=hid hV;have HA:=hid nV;have hlz:¬ (20000:Int)<(s.length:Int):=aj;clear hV nV;go_enter func44,ntmps44;go_wp2;go_loopg [0,5,6,7,8,9,10,11] s.length (fun gk s0 s5 s6 s7 s8 s9 s10 s11 wr=>∃ (u:List UInt8) (n:Nat) (l:List TR) (a:Option Addr) (m c:Nat),s0=str u∧s5=.slice a m c∧s6=.int .i64 n∧m=l.length∧u.length≤gk∧u.length≤s.length∧n≤200∧m≤100∧Hid (∀ t∈l,Tm.bG t=true)∧Hid ((Tm.eD l).length=l.length)∧Hid (Below w.heap.size w wr)∧Hid (bX wr (.slice a m c) ((Tm.eD l).map bA))∧Hid (Tm.f_ u n l=R))
 case atStart=>exact ⟨s,0,[],none,0,0,rfl,rfl,rfl,rfl,Nat.le_refl _,Nat.le_refl _,aj,aj,hid (fun t h=>by cases h),rfl,Below.refl _ _,bX.nil _,HA⟩
 case round=>
  obtain ⟨u,n,l,a5,m5,c5,rfl,rfl,rfl,rfl,hg,iF,hn,hm,gJ,vP,HB,HT,HP⟩:=hrel;rcases u with _ | ⟨c,v⟩
  · have HF:=hid (show R=(0,n,l) from HP.out.symm);go_wp2;go_ret3
    rw [HF.out];exact ⟨_,rfl,HT.out,HB.out⟩
  · have hu:(c::v:List UInt8)≠[]:=aC;have hue:(!(c::v:List UInt8).isEmpty)=true:=rfl;have Ia:=hid (Tm.wJ hu);have Ib:=hid (Tm.JW (c::v));have HS:=hid (Tm.Dy hu n l);obtain ⟨U,hU⟩:=aA (c::v);rw [←hU] at hu hue Ia Ib HS HP hg iF ⊢;clear hU;clear hu;obtain ⟨cl,cr,hcc⟩:∃ cl cr,Tm.fA U=(cl,cr):=⟨_,_,rfl⟩;have kK:=hid hcc;have hcr:cr.length<U.length:=(by have h:=Ia.out;rw [hcc] at h;exact h);have hcl:cl.length≤1000000:=(by have h:=Ib.out;rw [hcc] at h;simp only at h;omega);have ON:=hid (fun W hV=>adI cl W hV hcl);rw [hcc] at HS;clear hcc Ia Ib;go_wp2;go_loopg [7] U.length (fun gk s7 wq=>∃ k:Nat,s7=.int .i64 k∧k≤U.length∧U.length-k≤gk∧wq=wr∧Hid (∀ d∈U.take k,d≠10))
    (case atStart=>exact ⟨0,rfl,Nat.zero_le _,aj,rfl,hid (fun d hd=>by simp at hd)⟩);case round=>
     obtain ⟨k,rfl,hk,zY,rfl,HK⟩:=hrel;rcases adq hk HK.out kK.out with ⟨d,hd,hkl,h10⟩ | ⟨h1,h2,h3⟩ | ⟨h0,hkl,hd,h2,h3⟩ | ⟨d,h0,hkl,hd,hj,oQ,h2,h3⟩ | ⟨h0,hkl,hd,hj,h2,h3⟩
     · have HK2:=hid (adt HK.out hd h10);have hdd:=fun q=>eX U k d hd q;have hkz:(k:Int)<(U.length:Int):=aj;have b1:=adr h10;clear hd h10;go_wp2;go_roundg (U.length-(k+1))
       (case measure=>omega);case rel=>exact ⟨k+1,aN,aj,aj,rfl,HK2⟩
     have hkz:¬ (k:Int)<(U.length:Int):=aj;subst h1;have hx1:(⟨U.toArray⟩:ByteArray).extract 0 U.length=⟨cl.toArray⟩:=(by rw [tY,h2]);have hx2:(⟨U.toArray⟩:ByteArray).extract (min ((U.length:Int)+1) (U.length:Int)).toNat U.length=⟨cr.toArray⟩:=(by rw [show (min ((U.length:Int)+1) (U.length:Int)).toNat=U.length by omega,gQ,h3]);clear h2 h3;rotate_left;subst h0;have hdd:=fun q=>eX U 0 10 hd q;have hx2:(⟨U.toArray⟩:ByteArray).extract (min 1 (U.length:Int)).toNat U.length=⟨cr.toArray⟩:=(by rw [show (min 1 (U.length:Int)).toNat=1 by omega,gQ,←h3]);have hce:ByteArray.empty=⟨cl.toArray⟩:=(by rw [←h2];rfl);have hk1:0<U.length:=hkl;clear hd h2 h3;rotate_left;have hdd:=fun q=>eX U k 10 hd q;have hde:=fun q=>eX U (k-1) d hj q;have hkz:(k:Int)<(U.length:Int):=aj;have adL:(k:Int)+1≤(U.length:Int):=aj;have hx1:(⟨U.toArray⟩:ByteArray).extract 0 k=⟨cl.toArray⟩:=(by rw [tY,h2]);have hx2:(⟨U.toArray⟩:ByteArray).extract (min ((k:Int)+1) (U.length:Int)).toNat U.length=⟨cr.toArray⟩:=(by rw [show (min ((k:Int)+1) (U.length:Int)).toNat=k+1 by omega,gQ,h3]);have hk0:(0:Int)<(k:Int):=aj;have b1:=ads oQ;clear hd hj oQ h2 h3;rotate_left;have hdd:=fun q=>eX U k 10 hd q;have hde:=fun q=>eX U (k-1) 13 hj q;have hkz:(k:Int)<(U.length:Int):=aj;have adL:(k:Int)+1≤(U.length:Int):=aj;have hx1:(⟨U.toArray⟩:ByteArray).extract 0 (k-1)=⟨cl.toArray⟩:=(by rw [tY,h2]);have hx2:(⟨U.toArray⟩:ByteArray).extract (min ((k:Int)+1) (U.length:Int)).toNat U.length=⟨cr.toArray⟩:=(by rw [show (min ((k:Int)+1) (U.length:Int)).toNat=k+1 by omega,gQ,h3]);have hk0:(0:Int)<(k:Int):=aj;clear hd hj h2 h3;rotate_left;all_goals
      go_upto_region 13 with fail
      try rw [hce]
      have hmz:(l.length:Int)≤100:=aj
      by_cases m_:200<n+1
      · have hz:(200:Int)<(n:Int)+1:=aj
        have HF:=hid (show R=(3,n+1,[]) by
         have h:=HP.out
         rw [HS.out,if_pos m_] at h
         exact h.symm)
        go_wp2
        go_ret3
        rw [HF.out]
        exact Uq7 rfl aH rfl HB.out
      · have hz:(n:Int)+1≤200:=aj
        rcases ho:Tm.one cl with _ | _ | t
        · have HF:=hid (show R=(2,n+1,[]) by
           have h:=HP.out
           rw [HS.out,if_neg m_] at h
           simp only [ho] at h
           exact h.symm)
          rw [ho] at ON
          have zw:Hid (∀ W,Vars W→Calls prog 87 #[str cl] W fun e w'=>e=.returned (.tuple #[.agg z9.toArray,.bool false,.bool false])∧Below W.heap.size W w'):=ON
          clear ho ON
          go_wp2_with fail
          refine (zw.out _ (HV.out.keep HB.out)).mono ?_
          rintro e w3 ⟨rfl,hlow⟩
          have HL:=hid hlow
          have HB3:=hid (aG HB.out hlow)
          clear hlow
          go_wp2
          go_ret3
          rw [HF.out]
          exact Uq7 rfl aH rfl (HB3.out.alloc HB3.out.size _)
        · have HF:=hid (show Tm.f_ cr (n+1) l=R by
           have h:=HP.out
           rw [HS.out,if_neg m_] at h
           simp only [ho] at h
           exact h)
          rw [ho] at ON
          have zw:Hid (∀ W,Vars W→Calls prog 87 #[str cl] W fun e w'=>e=.returned (.tuple #[.agg z9.toArray,.bool false,.bool true])∧Below W.heap.size W w'):=ON
          clear ho ON
          go_wp2_with fail
          refine (zw.out _ (HV.out.keep HB.out)).mono ?_
          rintro e w3 ⟨rfl,hlow⟩
          have HL:=hid hlow
          have HB3:=hid (aG HB.out hlow)
          clear hlow
          go_wp2
          go_roundg cr.length
          case measure=>omega
          case rel=>exact ⟨cr,n+1,l,_,_,_,rfl,rfl,aN,rfl,Nat.le_refl _,aj,aj,aj,gJ,vP,HB3.out.alloc HB3.out.size _,HT.out.keep (HL.out.alloc HL.out.size _),HF⟩
        · have HST:=hid (show (if t∈l then Tm.f_ cr (n+1) l else if l.length=100 then (3,n+1,[]) else Tm.f_ cr (n+1) (l++[t]))=R by
           have h:=HP.out
           rw [HS.out,if_neg m_] at h
           simp only [ho] at h
           exact h)
          rw [ho] at ON
          have PU:=hid (fun W h=>ac3 (Tm.eD l) (Tm.wK gJ.out) (by have:=vP.out;omega) t (BQ ho) W (.slice a5 l.length c5) h)
          have EP:=hid (BQ ho)
          have sN:=hid (fun h:t∈l=>ado gJ.out h)
          have vo:=hid (fun h:t ∉ l=>And.intro (H_ l t) (adp gJ.out h))
          obtain ⟨L6,hL6⟩:=aA (Tm.put (Tm.eD l) t)
          have Fj:=hid hL6
          rw [←hL6] at PU sN vo
          clear hL6
          obtain ⟨⟨n1,t1,x1⟩,⟨n2,t2,x2⟩,n3,t3,x3⟩:=t
          have zw:Hid (∀ W,Vars W→Calls prog 87 #[str cl] W fun e w'=>e=.returned (.tuple #[fD (n1:Nat) t1 x1 (n2:Nat) t2 x2 (n3:Nat) t3 x3,.bool true,.bool true])∧Below W.heap.size W w'):=ON
          clear ho ON
          go_wp2_with fail
          refine (zw.out _ (HV.out.keep HB.out)).mono ?_
          rintro e w3 ⟨rfl,hlow⟩
          have HL:=hid hlow
          have HB3:=hid (aG HB.out hlow)
          clear hlow
          have aP:=hid (show Below w.heap.size w (aU w3 n1 t1 x1 n2 t2 x2 n3 t3 x3) from HB3.out.alloc HB3.out.size _)
          have aT:=hid (HT.out.keep (show Below wr.heap.size wr (aU w3 n1 t1 x1 n2 t2 x2 n3 t3 x3) from HL.out.alloc HL.out.size _))
          have aW:=hid (fT w3 n1 t1 x1 n2 t2 x2 n3 t3 x3)
          go_upto_region 17 with fail
          show Code.wp _ _ _ _ (aU w3 n1 t1 x1 n2 t2 x2 n3 t3 x3)
          obtain ⟨w4,hw4⟩:=aA (aU w3 n1 t1 x1 n2 t2 x2 n3 t3 x3)
          rw [←hw4] at aP aT aW ⊢
          clear hw4
          have c0:=aW.out.cell (i:=0) rfl
          have c1:=aW.out.cell (i:=1) rfl
          have c2:=aW.out.cell (i:=2) rfl
          have c3:=aW.out.cell (i:=3) rfl
          have c4:=aW.out.cell (i:=4) rfl
          have c5':=aW.out.cell (i:=5) rfl
          have c6:=aW.out.cell (i:=6) rfl
          have c7:=aW.out.cell (i:=7) rfl
          have c8:=aW.out.cell (i:=8) rfl
          have PU2:Hid (∀ W,bX W (.slice a5 l.length c5) ((Tm.eD l).map bA)→Calls prog 66 #[.slice a5 l.length c5,fD (n1:Nat) t1 x1 (n2:Nat) t2 x2 (n3:Nat) t3 x3] W fun e w'=>∃ v',e=.returned v'∧bX w' v' (L6.map bA)∧Below W.heap.size W w'):=PU
          go_wp2_with fail
          refine (PU2.out _ aT.out).mono ?_
          rintro e w5 ⟨v6,rfl,hv6,hlow⟩
          clear c0 c1 c2 c3 c4 c5' c6 c7 c8
          obtain ⟨a6,d6,rfl,_,_,_⟩:=hv6.open
          rw [List.length_map] at hv6 ⊢
          have bC:=hid hv6
          have aO:=hid (aG aP.out hlow)
          clear hlow hv6
          by_cases hin:((n1,t1,x1),(n2,t2,x2),n3,t3,x3)∈l
          · have e6:=sN.out hin
            have HF:=hid (show Tm.f_ cr (n+1) l=R by have h:=HST.out;rw [if_pos hin] at h;exact h)
            have vQ:L6.length=l.length:=by rw [e6];exact vP.out
            rw [vQ] at bC ⊢
            rw [e6] at bC
            clear hin e6 vQ
            go_wp2
            go_roundg cr.length
            case measure=>omega
            case rel=>exact ⟨cr,n+1,l,_,_,_,rfl,rfl,aN,rfl,Nat.le_refl _,aj,aj,aj,gJ,vP,aO,bC,HF⟩
          · obtain ⟨e6,vQ⟩:=vo.out hin
            have Ic:L6.length=l.length+1:=by have:=vP.out;rw [←e6,vQ];omega
            rw [Ic] at bC ⊢
            by_cases ze:l.length=100
            · have HF:=hid (show R=(3,n+1,[]) by have h:=HST.out;rw [if_neg hin,if_pos ze] at h;exact h.symm)
              have Li:(100:Int)<((l.length+1:Nat):Int):=aj
              clear hin e6 vQ Ic
              go_wp2
              go_ret3
              rw [HF.out]
              exact Uq7 rfl aH rfl aO.out
            · have HF:=hid (show Tm.f_ cr (n+1) (l++[((n1,t1,x1),(n2,t2,x2),n3,t3,x3)])=R by have h:=HST.out;rw [if_neg hin,if_neg ze] at h;exact h)
              have Li:((l.length+1:Nat):Int)≤100:=aj
              have Ie:(l++[((n1,t1,x1),(n2,t2,x2),n3,t3,x3)]).length=l.length+1:=by rw [List.length_append];rfl
              have fQ:=hid (show ∀ x∈l++[((n1,t1,x1),(n2,t2,x2),n3,t3,x3)],Tm.bG x=true from fun x hx=>by
               rcases List.mem_append.1 hx with hx | hx
               · exact gJ.out x hx
               · rw [List.mem_singleton.1 hx];exact EP.out)
              have HL2:=hid (show (Tm.eD (l++[((n1,t1,x1),(n2,t2,x2),n3,t3,x3)])).length=(l++[((n1,t1,x1),(n2,t2,x2),n3,t3,x3)]).length by rw [Ie,vo.out hin |>.2];have:=vP.out;omega)
              rw [Fj.out,←H_] at bC
              rw [←Ie] at bC
              generalize l++[((n1,t1,x1),(n2,t2,x2),n3,t3,x3)]=l2 at *
              clear hin e6 vQ Ic
              go_wp2
              go_roundg cr.length
              case measure=>omega
              case rel=>exact ⟨cr,n+1,l2,_,_,_,rfl,by rw [Ie],aN,rfl,Nat.le_refl _,aj,aj,aj,fQ,HL2,aO,bC,HF⟩
theorem adM:Rows.laid_unicode_utf8_first=Lib.firstData:=aD
theorem adN:(Rows.laid_unicode_utf8_acceptRanges:DataW Unit)=Lib.acceptData:=aD
theorem adO:∃ ms,prog.underlying 176=some (.interface ms):=⟨_,underlying176⟩
theorem adP {W:World} (h:laidMetH prog Rows.storeOfNothingRow.laid W) (hs:W.ShapedOpen prog):Vars W∧dz W:=by
 have h1:laidMet prog Rows.storeOfNothingRow.laid W:=by rw [Go.MakeChecks.laidMetH_plain prog _ _ aD] at h;exact h
 have h3:=Lib.laidMet.reads h1 (n := "unicode/utf8.first") (.tail _ (.tail _ (.tail _ (.tail _ (.tail _ (.tail _ (.tail _ (.head _))))))));have h4:=Lib.laidMet.reads h1 (n := "unicode/utf8.acceptRanges") (.tail _ (.tail _ (.tail _ (.head _))));have h5:=Lib.laidMet.reads h1 (n := "strconv.ErrSyntax") (.tail _ (.tail _ (.tail _ (.tail _ (.tail _ (.head _))))));rw [adM] at h3;rw [adN] at h4;refine ⟨⟨utf8Tabs_of_readsT (U8Types.of196 Tryz.lays196) ⟨aD,aD,aD,aD,aD,aD,aD⟩ h3 h4,?_⟩,?_⟩;{exact Go.Proofs.cell_of_shapedOpen_int (zero:=#[.int .i64 0]) (t:=3) hs (of_decide_eq_true aD) aD rfl aD aD underlying3};{obtain ⟨g,t,cs,fuel,p,hg,ht,hv,htr⟩:=h5;have hg2:prog.globalNamed "strconv.ErrSyntax" = some 4:=aD;obtain rfl:g=4:=Option.some.inj (hg.symm.trans hg2);have ht2:(prog.globals[4]?).map (·.type)=some 176:=aD;obtain rfl:t=176:=Option.some.inj (ht.symm.trans ht2);obtain ⟨ms,hms⟩:=adO;obtain ⟨_,u,v,hcs,_,_⟩:=iface_of_trod hms htr;refine ⟨.iface u v,?_,.inr ⟨u,v,rfl⟩⟩;have:=World.var?_cell hg hv 0;rw [this,←Array.getElem?_toList,hcs];rfl}
noncomputable def Ig (os:Os):World:=World.laidAll prog os Rows.storeOfNothingRow.laid
theorem adQ {H:Type} {enc:TypeId×Value→H} {C:Checked} {os:Os} {f:FuncId} {fn:Func} {s:OpenSpec} {conds:List PathCond} {apart:Bool} {laid:List (String×DataW Unit)} (modest:Bool) (w0:World) (args:Array Value) (hos:w0.os=os)
  (hsh:(w0.forCall (fun _ _=>0) ⟨#[],args,[]⟩).Shaped C.prog)
  (hok:Input.okWideB C.prog (w0.forCall (fun _ _=>0) ⟨#[],args,[]⟩) f ⟨#[],args,[]⟩=true)
  (hrow:s.preRow enc C.prog fn conds apart laid (w0.forCall (fun _ _=>0) ⟨#[],args,[]⟩).memory args) :
  ∃ (w:World) (tape:Tape) (i:Input),w.os=os∧(w.forCall tape i).Shaped C.prog∧i.vars=[]∧Input.okWide C.prog (w.forCall tape i) .any w.heap.size f i ∧
   s.preRow enc C.prog fn conds apart laid (w.forCall tape i).memory i.args∧({ modest:=modest }:Assume).holds C.prog (lone (Frame.enter C.prog f i.args .normal) [] (w.forCall tape i)):=by refine ⟨w0,fun _ _=>0,⟨#[],args,[]⟩,hos,hsh,(Input.okWide_of_okWideB (base:=0) hok).1,(Input.okWide_of_okWideB hok).2,hrow,?_⟩;simp only [Assume.holds];exact ⟨aC,aC,fun _=>Modest.zero,aC,aC⟩
theorem adR (os:Os) (args:Array Value):laidMet prog Rows.storeOfNothingRow.laid ((Ig os).forCall (fun _ _=>0) ⟨#[],args,[]⟩).memory:=laidMet_laidAll _ aD aD
end Go.Proofs.YtjaebndajhppgaaGreatDoor
