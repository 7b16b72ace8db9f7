import Derived.Test.YtjkbmfpomgcblaaGreatDoorKp30
import Derived.Deep.RegionWith
namespace Go.Proofs.YtjkbmfpomgcblaaGreatDoor
open Go.RowKit
theorem lzsq_to (s T:ByteArray) (w:World) (hs:s.size≤20000) (hT:sqL s.data.toList=T.data.toList) :
   Calls Tryz.prog 88 #[.string s] w fun e w'=>e=.returned (.tuple #[.string T,.nilIface])∧Below w.heap.size w w':=by
 have h:=lzsq_any s w hs
 rw [hT,bs_of] at h
 exact h
theorem put_to (n:Nat) (N:ByteArray) (w:World) (h:n≤1000000) (hN:putL n=N.data.toList) :
   Calls Tryz.prog 89 #[.int .u64 (n:Int)] w fun e w'=>e=.returned (.string N)∧Below w.heap.size w w' :=
 put_as n n N w h rfl (by rw [hN,bs_of])
theorem byte_conv (K:Nat) (B:ByteArray) (hB:B=⟨#[UInt8.ofNat K]⟩) (hK:K≤255) (W:World) (b:Nat) (h:W.heap[b]? = some (.cells #[.int .u8 (K:Int)] 5 (0,0))) :
   (convert 60 9 (.slice (some ⟨b,0,none⟩) 1 1)).run Tryz.prog W=.ok (.string B) W:=by
 subst hB
 refine run_convert_bytes_back _ _ _ _ _ _ [UInt8.ofNat K] Tryz.underlying60 Tryz.underlying5 Tryz.underlying9 fun j hj=>?_
 obtain rfl:j=0:=by simp at hj;omega
 have hadd:(⟨b,0,none⟩:Addr).add 0=⟨b,0,none⟩:=rfl
 rw [hadd,cell_of_row _ _ _ _ _ _ h]
 simp
 omega
theorem byte_lit (K:Nat) (k:Int) (B:ByteArray) (hk:(K:Int)=k) (hB:B=⟨#[UInt8.ofNat K]⟩) (hK:K≤255) (W:World) (b:Nat) (h:W.heap[b]? = some (.cells #[.int .u8 k] 5 (0,0))) :
   (convert 60 9 (.slice (some ⟨b,0,none⟩) 1 1)).run Tryz.prog W=.ok (.string B) W:=by
 subst hk;exact byte_conv K B hB hK W b h
theorem undrewP {w w':World} (h:Below w.drew.heap.size w.drew w'):Below w.heap.size w w':=((Below.refl _ _).drew).trans h
theorem pack_parts (s P:ByteArray) (hs:s.size≤20000) (hP:packL s.data.toList=P.data.toList) :
   ∃ T N:ByteArray,sqL s.data.toList=T.data.toList∧putL s.size=N.data.toList∧N.size≤3 ∧
     ((T.size < s.size∧(⟨#[1]⟩:ByteArray) ++ N ++ T=P)∨(s.size≤T.size∧(⟨#[0]⟩:ByteArray) ++ N ++ s=P)):=by
 have hl:s.size=s.data.toList.length:=size_data s
 have hz:=putL_size (n:=s.size) hs
 have e1:sqL s.data.toList=(⟨(sqL s.data.toList).toArray⟩:ByteArray).data.toList:=by simp
 have e2:putL s.size=(⟨(putL s.size).toArray⟩:ByteArray).data.toList:=by simp
 generalize (⟨(sqL s.data.toList).toArray⟩:ByteArray)=T at e1
 generalize (⟨(putL s.size).toArray⟩:ByteArray)=N at e2
 have hT:T.size=(sqL s.data.toList).length:=by rw [e1,size_data]
 have hN:N.size=(putL s.size).length:=by rw [e2,size_data]
 refine ⟨T,N,e1,e2,by rw [hN,hz];split <;> split <;> omega,?_⟩
 unfold packL at hP
 rw [←hl] at hP
 by_cases hc:T.size < s.size
 · rw [if_pos (by rw [←hT];exact hc),e1,e2] at hP
   exact .inl ⟨hc,bytes_ext (by simp [←hP])⟩
 · rw [if_neg (by rw [←hT];exact hc),e2] at hP
   exact .inr ⟨by omega,bytes_ext (by simp [←hP])⟩
set_option maxRecDepth 100000 in
set_option maxHeartbeats 1200000 in
theorem pack_any (s P:ByteArray) (w:World) (hs:s.size≤20000) (hP:packL s.data.toList=P.data.toList) :
   Calls Tryz.prog 42 #[.string s] w fun e w'=>e=.returned (.string P)∧Below w.heap.size w w':=by
 obtain ⟨T,N,hT,hN,hN3,hc⟩:=pack_parts s P hs hP
 have HT:=Lib.hid hT
 have HN:=Lib.hid hN
 have HTZ:Hid (T.size≤220000):=Lib.hid (by rw [size_data,←hT];exact sq_len _ (by rw [←size_data];exact hs))
 clear hT hN hP
 rcases hc with ⟨hc,hp⟩ | ⟨hc,hp⟩
 · have HP:=Lib.hid hp
   have hi:(T.size:Int) < (s.size:Int):=by omega
   obtain ⟨B,hB⟩:∃ B:ByteArray,B=⟨#[1]⟩:=⟨_,rfl⟩
   rw [←hB] at HP
   have HBB:=Lib.hid hB
   clear hB hp hc
   go_enter Tryz.func42,Tryz.ntmps42
   go_wp2_with fail
   refine (lzsq_to s T _ hs HT.out).mono ?_
   rintro r w1 ⟨rfl,hb1⟩
   have HB1:=Lib.hid hb1
   clear hb1
   go_wp2
   have hu:IntKind.u64.wrap (s.size:Int)=(s.size:Int):=by rw [IntKind.wrap_u64];omega
   have HPT:=Lib.hid (fun w'=>put_to s.size N w' (by omega) HN.out)
   have ha1:¬ (9223372036854775807 < B.size + N.size):=by rw [HBB.out];show ¬ (9223372036854775807 < 1 + N.size);omega
   have ha2:¬ (9223372036854775807 < (B ++ N).size + T.size):=by rw [ByteArray.size_append,HBB.out];show ¬ (9223372036854775807 < 1 + N.size + T.size);have:=HTZ.out;omega
   have ha3:¬ (9223372036854775807 < B.size + N.size + T.size):=by rw [←ByteArray.size_append];exact ha2
   have hcA:=byte_lit 1 1 B rfl HBB.out (by omega) (w1.alloc (.cells #[.int .u8 1] 5)) w1.heap.size (heap_alloc_new w1 _)
   have hcD:=byte_lit 1 1 B rfl HBB.out (by omega) (w1.alloc (.cells #[.int .u8 1] 5)).drew w1.heap.size (heap_alloc_new w1 _)
   have HBA:Hid (Below w1.heap.size w1 (w1.alloc (.cells #[.int .u8 1] 5))):=Lib.hid ((Below.refl _ _).alloc (Nat.le_refl _) _)
   go_region_with (first
     | (go_at_call 89;((with_reducible refine (HPT.out w1.drew).mono ?_);rintro r w2 ⟨rfl,hb2⟩;have HB2:Hid (Below w1.heap.size w1 w2):=Lib.hid (undrewP hb2);have hcB:=byte_lit 1 1 B rfl HBB.out (by omega) (w2.alloc (.cells #[.int .u8 1] 5)) w2.heap.size (heap_alloc_new w2 _);clear hb2))
     | (go_at_call 89;((with_reducible refine (HPT.out (w1.alloc (.cells #[.int .u8 1] 5)).drew).mono ?_);rintro r w2 ⟨rfl,hb2⟩;have HB2:Hid (Below w1.heap.size w1 w2):=Lib.hid (HBA.out.trans ((undrewP hb2).mono (by simp)));have hcB:=byte_lit 1 1 B rfl HBB.out (by omega) w2 w1.heap.size (((undrewP hb2).block _ (by simp)).trans (heap_alloc_new w1 _));clear hb2)))
   all_goals
     clear hcA hcB hcD
     go_wp2
     go_ret
     first
       | exact ⟨by rw [←HP.out];rfl,HB1.out.trans (HB2.out.mono HB1.out.size)⟩
       | exact ⟨by rw [←HP.out];rfl,HB1.out.trans ((HB2.out.alloc HB2.out.size _).mono HB1.out.size)⟩
 · have HP:=Lib.hid hp
   have hi:(s.size:Int)≤(T.size:Int):=by omega
   obtain ⟨B,hB⟩:∃ B:ByteArray,B=⟨#[0]⟩:=⟨_,rfl⟩
   rw [←hB] at HP
   have HBB:=Lib.hid hB
   clear hB hp hc
   go_enter Tryz.func42,Tryz.ntmps42
   go_wp2_with fail
   refine (lzsq_to s T _ hs HT.out).mono ?_
   rintro r w1 ⟨rfl,hb1⟩
   have HB1:=Lib.hid hb1
   clear hb1
   go_wp2
   have hu:IntKind.u64.wrap (s.size:Int)=(s.size:Int):=by rw [IntKind.wrap_u64];omega
   have HPT:=Lib.hid (fun w'=>put_to s.size N w' (by omega) HN.out)
   have ha1:¬ (9223372036854775807 < B.size + N.size):=by rw [HBB.out];show ¬ (9223372036854775807 < 1 + N.size);omega
   have ha2:¬ (9223372036854775807 < (B ++ N).size + s.size):=by rw [ByteArray.size_append,HBB.out];show ¬ (9223372036854775807 < 1 + N.size + s.size);omega
   have ha3:¬ (9223372036854775807 < B.size + N.size + s.size):=by rw [←ByteArray.size_append];exact ha2
   have hcA:=byte_lit 0 0 B rfl HBB.out (by omega) (w1.alloc (.cells #[.int .u8 0] 5)) w1.heap.size (heap_alloc_new w1 _)
   have hcD:=byte_lit 0 0 B rfl HBB.out (by omega) (w1.alloc (.cells #[.int .u8 0] 5)).drew w1.heap.size (heap_alloc_new w1 _)
   have HBA:Hid (Below w1.heap.size w1 (w1.alloc (.cells #[.int .u8 0] 5))):=Lib.hid ((Below.refl _ _).alloc (Nat.le_refl _) _)
   go_region_with (first
     | (go_at_call 89;((with_reducible refine (HPT.out w1.drew).mono ?_);rintro r w2 ⟨rfl,hb2⟩;have HB2:Hid (Below w1.heap.size w1 w2):=Lib.hid (undrewP hb2);have hcB:=byte_lit 0 0 B rfl HBB.out (by omega) (w2.alloc (.cells #[.int .u8 0] 5)) w2.heap.size (heap_alloc_new w2 _);clear hb2))
     | (go_at_call 89;((with_reducible refine (HPT.out (w1.alloc (.cells #[.int .u8 0] 5)).drew).mono ?_);rintro r w2 ⟨rfl,hb2⟩;have HB2:Hid (Below w1.heap.size w1 w2):=Lib.hid (HBA.out.trans ((undrewP hb2).mono (by simp)));have hcB:=byte_lit 0 0 B rfl HBB.out (by omega) w2 w1.heap.size (((undrewP hb2).block _ (by simp)).trans (heap_alloc_new w1 _));clear hb2)))
   all_goals
     clear hcA hcB hcD
     go_wp2
     go_ret
     first
       | exact ⟨by rw [←HP.out];rfl,HB1.out.trans (HB2.out.mono HB1.out.size)⟩
       | exact ⟨by rw [←HP.out];rfl,HB1.out.trans ((HB2.out.alloc HB2.out.size _).mono HB1.out.size)⟩
end Go.Proofs.YtjkbmfpomgcblaaGreatDoor
namespace Go.Proofs.YtjkbmfpomgcblaaGreatDoor
open Go.RowKit
theorem int_to (s:ByteArray) (n k e:Nat) (w:World) (hs:s.size≤maxLen) (h:intL s.data.toList 20000=(n,k,e)) :
   Calls Tryz.prog 96 #[.string s,.int .i64 20000] w fun r w'=>r=.returned (.tuple #[.int .i64 (n:Int),.int .i64 (k:Int),errC e])∧w=w':=by
 have h1:=int_any s 20000 w hs (by omega) (by omega)
 rw [h] at h1
 exact h1
theorem intL_fits {l:List UInt8} {n k:Nat} (h:intL l 20000=(n,k,0)):n≤20000∧k≤l.length:=by
 rcases getL_cases l with ⟨e,hg,he⟩ | ⟨m,j,hg,_,_,_,hj⟩
 · rw [intL_bad hg he] at h;injection h with _ h;injection h with _ h;exact absurd h he
 · by_cases hm:(20000:Int) < 0∨(20000:Int) < m
   · rw [intL_range hg hm] at h;injection h with _ h;injection h with _ h;cases h
   · rw [intL_ok hg hm] at h
     injection h with h1 h
     injection h with h2 _
     subst h1 h2
     exact ⟨by omega,hj⟩
theorem swell_to (s T:ByteArray) (e:Nat) (pl:Int) (w:World) (hs:s.size≤400000) (hg:errT w) (hT:swellF s.data.toList=T.data.toList) (hr:(readF s.data.toList).1=(e,pl)) :
   Calls Tryz.prog 97 #[.string s] w fun r w'=>∃ err,r=.returned (.tuple #[.string T,err])∧atIs w' err (e,pl)∧Below w.heap.size w w':=by
 refine (lzswell_any s w hs hg).mono ?_
 rintro r w' ⟨err,rfl,hat,hb⟩
 rw [hT,bs_of,hr] at *
 exact ⟨err,rfl,hat,hb⟩
def unpV (r:List UInt8×Nat):Value:=.tuple #[.string ⟨r.1.toArray⟩,errC r.2]
set_option maxRecDepth 100000 in
set_option maxHeartbeats 1200000 in
theorem unpack_any (i:ByteArray) (w:World) (h1:1≤i.size) (hs:i.size≤400000) (hg:errT w) :
   Calls Tryz.prog 51 #[.string i] w fun e w'=>e=.returned (unpV (unpF i.data.toList))∧Below w.heap.size w w':=by
 have HG:=Lib.hid hg
 have hl:i.size=i.data.toList.length:=size_data i
 have hz:0 < i.size:=by omega
 obtain ⟨c, hc⟩ : ∃ c : UInt8, i[0]'hz = c := ⟨_, rfl⟩
 have hcd:i.data.toList.getD 0 0=c:=by
   rw [List.getD_eq_getElem?_getD,List.getElem?_eq_getElem (by omega),Option.getD_some,←hc];rfl
 have hzi:1≤(i.size:Int):=by omega
 clear hg
 by_cases hc2:1 < c.toNat
 · rw [unp_form (by rw [hcd];exact hc2)]
   have e1:((c.toNat:Int) != 0)=true:=by simp;omega
   have e2:((c.toNat:Int) != 1)=true:=by simp;omega
   clear hl hcd hc2
   go_enter Tryz.func51,Tryz.ntmps51
   go_wp2
   go_ret2
   exact ⟨rfl,Below.refl _ _⟩
 · obtain ⟨n,k,e,hi⟩:∃ n k e,intL (i.data.toList.drop 1) 20000=(n,k,e):=⟨_,_,_,rfl⟩
   have hid:(i.extract 1 i.size).data.toList=i.data.toList.drop 1:=by rw [ext_list];exact List.take_of_length_le (by simp)
   have HI:Hid (intL (i.extract 1 i.size).data.toList 20000=(n,k,e)):=Lib.hid (by rw [hid];exact hi)
   have HIZ:Hid ((i.extract 1 i.size).size≤maxLen):=Lib.hid (by unfold maxLen;simp;omega)
   by_cases he:e=0
   · subst he
     obtain ⟨hn,hk⟩:=intL_fits hi
     rw [List.length_drop,←hl] at hk
     obtain ⟨R,hR⟩:∃ R:ByteArray,i.extract (1 + k) i.size=R:=⟨_,rfl⟩
     have hRd:(i.data.toList.drop 1).drop k=R.data.toList:=by
       rw [←hR,ext_list,List.drop_drop];exact (List.take_of_length_le (by simp)).symm
     have hRz:R.size≤400000:=by rw [←hR];simp;omega
     have hkz:1 + k≤i.size:=by omega
     have hk1:IntKind.i64.wrap (1 + (k:Int))=1 + (k:Int):=IntWalk.i64_in _ (by omega)
     have hk2:(0:Int)≤1 + (k:Int):=by omega
     have hk3:1 + (k:Int)≤(i.size:Int):=by omega
     have hk4:(1 + (k:Int)).toNat=1 + k:=by omega
     rcases (show c.toNat=0∨c.toNat=1 by omega) with h0 | h0
     · obtain rfl:c=0:=UInt8.toNat_inj.1 h0
       by_cases hn2:R.size=n
       · have HQ : Hid (unpV (unpF i.data.toList) = .tuple #[.string R, .nilIface]) := Lib.hid (by
           rw [unp_ok0 (by rw [hcd];rfl) hi (by rw [hRd,←size_data];exact hn2),hRd]
           unfold unpV;rw [bs_of];rfl)
         rw [HQ.out]
         have hni:((R.size:Int) == (n:Int))=true:=by simp;omega
         clear hl hcd hid hi hRd
         go_enter Tryz.func51,Tryz.ntmps51
         go_wp2_with fail
         refine (int_to (i.extract 1 i.size) n k 0 _ HIZ.out HI.out).mono ?_
         rintro r w1 ⟨rfl,rfl⟩
         rw [errC_zero]
         go_wp2
         go_ret2
         exact ⟨rfl,Below.refl _ _⟩
       · have HQ : Hid (unpV (unpF i.data.toList) = .tuple #[.string ⟨#[]⟩, .iface 44 (.int .i64 2)]) := Lib.hid (by
           rw [unp_range0 (by rw [hcd];rfl) hi (by rw [hRd,←size_data];exact hn2)];rfl)
         rw [HQ.out]
         have hni:((R.size:Int) == (n:Int))=false:=by simp;omega
         clear hl hcd hid hi hRd
         go_enter Tryz.func51,Tryz.ntmps51
         go_wp2_with fail
         refine (int_to (i.extract 1 i.size) n k 0 _ HIZ.out HI.out).mono ?_
         rintro r w1 ⟨rfl,rfl⟩
         rw [errC_zero]
         go_wp2
         go_ret2
         exact ⟨rfl,Below.refl _ _⟩
     · obtain rfl:c=1:=UInt8.toNat_inj.1 h0
       obtain ⟨x,pl,hx⟩:∃ x pl,(readF R.data.toList).1=(x,pl):=⟨_,_,rfl⟩
       obtain ⟨T,hT⟩:∃ T:ByteArray,swellF R.data.toList=T.data.toList:=⟨⟨(swellF R.data.toList).toArray⟩,by simp⟩
       have HSW:=Lib.hid (fun w' hg=>swell_to R T x pl w' hRz hg hT hx)
       by_cases hx0:x=0
       · subst hx0
         by_cases hn2:T.size=n
         · have HQ : Hid (unpV (unpF i.data.toList) = .tuple #[.string T, .nilIface]) := Lib.hid (by
             rw [unp_ok1 (by rw [hcd];rfl) hi (by rw [hRd,hx]) (by rw [hRd,hT,←size_data];exact hn2),hRd,hT]
             unfold unpV;rw [bs_of];rfl)
           rw [HQ.out]
           have hni:((T.size:Int) == (n:Int))=true:=by simp;omega
           clear hl hcd hid hi hRd hx hT
           go_enter Tryz.func51,Tryz.ntmps51
           go_wp2_with fail
           refine (int_to (i.extract 1 i.size) n k 0 _ HIZ.out HI.out).mono ?_
           rintro r w1 ⟨rfl,rfl⟩
           rw [errC_zero]
           go_wp2_with fail
           refine (HSW.out w HG.out).mono ?_
           rintro r w2 ⟨err,rfl,hat,hb2⟩
           obtain rfl:=hat.nil rfl
           have HB2:=Lib.hid hb2
           clear hb2 hat
           go_wp2
           go_ret2
           exact ⟨rfl,HB2.out⟩
         · have HQ : Hid (unpV (unpF i.data.toList) = .tuple #[.string ⟨#[]⟩, .iface 44 (.int .i64 2)]) := Lib.hid (by
             rw [unp_range1 (by rw [hcd];rfl) hi (by rw [hRd,hx]) (by rw [hRd,hT,←size_data];exact hn2)];rfl)
           rw [HQ.out]
           have hni:((T.size:Int) == (n:Int))=false:=by simp;omega
           clear hl hcd hid hi hRd hx hT
           go_enter Tryz.func51,Tryz.ntmps51
           go_wp2_with fail
           refine (int_to (i.extract 1 i.size) n k 0 _ HIZ.out HI.out).mono ?_
           rintro r w1 ⟨rfl,rfl⟩
           rw [errC_zero]
           go_wp2_with fail
           refine (HSW.out w HG.out).mono ?_
           rintro r w2 ⟨err,rfl,hat,hb2⟩
           obtain rfl:=hat.nil rfl
           have HB2:=Lib.hid hb2
           clear hb2 hat
           go_wp2
           go_ret2
           exact ⟨rfl,HB2.out⟩
       · have HQ : Hid (unpV (unpF i.data.toList) = .tuple #[.string ⟨#[]⟩, .iface 44 (.int .i64 x)]) := Lib.hid (by
           rw [unp_swell (by rw [hcd];rfl) hi (by rw [hRd,hx]) hx0];unfold unpV;rw [errC_ne hx0])
         rw [HQ.out]
         clear hl hcd hid hi hRd hx hT
         go_enter Tryz.func51,Tryz.ntmps51
         go_wp2_with fail
         refine (int_to (i.extract 1 i.size) n k 0 _ HIZ.out HI.out).mono ?_
         rintro r w1 ⟨rfl,rfl⟩
         rw [errC_zero]
         go_wp2_with fail
         refine (HSW.out w HG.out).mono ?_
         rintro r w2 ⟨err,rfl,hat,hb2⟩
         have HIE:=Lib.hid (hat.isErr hx0)
         obtain ⟨t,u,rfl⟩:=hat.iface hx0
         have HB2:=Lib.hid hb2
         clear hb2 hat
         go_wp2_with fail
         refine (tell_err _ (x:Int) w2 (HG.out.below HB2.out) HIE.out).mono ?_
         rintro r w3 ⟨rfl,hb3⟩
         have HB3:Hid (Below w.heap.size w w3):=HB2.out.trans (hb3.mono HB2.out.size)
         clear hb3
         go_wp2
         go_ret2
         exact ⟨rfl,HB3.out⟩
   · have HQ : Hid (unpV (unpF i.data.toList) = .tuple #[.string ⟨#[]⟩, .iface 44 (.int .i64 e)]) := Lib.hid (by
       rw [unp_int (by rw [hcd];exact hc2) hi he];unfold unpV;rw [errC_ne he])
     rw [HQ.out]
     have hie:intL (i.extract 1 i.size).data.toList 20000=(n,k,e):=HI.out
     rcases (show c.toNat=0∨c.toNat=1 by omega) with h0 | h0
     · obtain rfl:c=0:=UInt8.toNat_inj.1 h0
       clear hl hcd hid hi hie
       go_enter Tryz.func51,Tryz.ntmps51
       go_wp2_with fail
       refine (int_to (i.extract 1 i.size) n k e _ HIZ.out HI.out).mono ?_
       rintro r w1 ⟨rfl,rfl⟩
       rw [errC_ne he]
       go_wp2
       go_ret2
       exact ⟨rfl,Below.refl _ _⟩
     · obtain rfl:c=1:=UInt8.toNat_inj.1 h0
       clear hl hcd hid hi hie
       go_enter Tryz.func51,Tryz.ntmps51
       go_wp2_with fail
       refine (int_to (i.extract 1 i.size) n k e _ HIZ.out HI.out).mono ?_
       rintro r w1 ⟨rfl,rfl⟩
       rw [errC_ne he]
       go_wp2
       go_ret2
       exact ⟨rfl,Below.refl _ _⟩
end Go.Proofs.YtjkbmfpomgcblaaGreatDoor
