/-
  Which event is of which type: the answers of the type switch's assertions. No condition.
-/
import Derived.Test.YtfflbaiddiahnaaLkTries
import Derived.KernelRfl
namespace Go.Proofs.Ytfflbaiddiahnaa.Lk
open Go.RowKit
theorem calls_arg {P : Program} {f : FuncId} {a b : Value} {w : World} {Q : Ending → World → Prop} (h : a = b) (hc : Calls P f #[b] w Q) : Calls P f #[a] w Q := h ▸ hc
theorem as_opens_opens (W : World) : (Instr.typeAssert (.iface 64 (.agg #[])) 67 64 true).run Try.prog W = .ok (.tuple #[.agg #[], .bool true]) W := by kernel_rfl
theorem as_opens_closes (W : World) : (Instr.typeAssert (.iface 64 (.agg #[])) 67 65 true).run Try.prog W = .ok (.tuple #[.agg #[], .bool false]) W := by kernel_rfl
theorem as_opens_due (W : World) : (Instr.typeAssert (.iface 64 (.agg #[])) 67 69 true).run Try.prog W = .ok (.tuple #[.agg #[], .bool false]) W := by kernel_rfl
theorem as_opens_sabm (W : World) : (Instr.typeAssert (.iface 64 (.agg #[])) 67 76 true).run Try.prog W = .ok (.tuple #[.agg #[.bool false], .bool false]) W := by kernel_rfl
theorem as_opens_disc (W : World) : (Instr.typeAssert (.iface 64 (.agg #[])) 67 77 true).run Try.prog W = .ok (.tuple #[.agg #[.bool false], .bool false]) W := by kernel_rfl
theorem as_opens_ua (W : World) : (Instr.typeAssert (.iface 64 (.agg #[])) 67 78 true).run Try.prog W = .ok (.tuple #[.agg #[.bool false], .bool false]) W := by kernel_rfl
theorem as_opens_dm (W : World) : (Instr.typeAssert (.iface 64 (.agg #[])) 67 79 true).run Try.prog W = .ok (.tuple #[.agg #[.bool false], .bool false]) W := by kernel_rfl
theorem as_opens_poll (W : World) : (Instr.typeAssert (.iface 64 (.agg #[])) 67 80 true).run Try.prog W = .ok (.tuple #[.agg #[.bool false], .bool false]) W := by kernel_rfl
theorem as_closes_opens (W : World) : (Instr.typeAssert (.iface 65 (.agg #[])) 67 64 true).run Try.prog W = .ok (.tuple #[.agg #[], .bool false]) W := by kernel_rfl
theorem as_closes_closes (W : World) : (Instr.typeAssert (.iface 65 (.agg #[])) 67 65 true).run Try.prog W = .ok (.tuple #[.agg #[], .bool true]) W := by kernel_rfl
theorem as_closes_due (W : World) : (Instr.typeAssert (.iface 65 (.agg #[])) 67 69 true).run Try.prog W = .ok (.tuple #[.agg #[], .bool false]) W := by kernel_rfl
theorem as_closes_sabm (W : World) : (Instr.typeAssert (.iface 65 (.agg #[])) 67 76 true).run Try.prog W = .ok (.tuple #[.agg #[.bool false], .bool false]) W := by kernel_rfl
theorem as_closes_disc (W : World) : (Instr.typeAssert (.iface 65 (.agg #[])) 67 77 true).run Try.prog W = .ok (.tuple #[.agg #[.bool false], .bool false]) W := by kernel_rfl
theorem as_closes_ua (W : World) : (Instr.typeAssert (.iface 65 (.agg #[])) 67 78 true).run Try.prog W = .ok (.tuple #[.agg #[.bool false], .bool false]) W := by kernel_rfl
theorem as_closes_dm (W : World) : (Instr.typeAssert (.iface 65 (.agg #[])) 67 79 true).run Try.prog W = .ok (.tuple #[.agg #[.bool false], .bool false]) W := by kernel_rfl
theorem as_closes_poll (W : World) : (Instr.typeAssert (.iface 65 (.agg #[])) 67 80 true).run Try.prog W = .ok (.tuple #[.agg #[.bool false], .bool false]) W := by kernel_rfl
theorem as_due_opens (W : World) : (Instr.typeAssert (.iface 69 (.agg #[])) 67 64 true).run Try.prog W = .ok (.tuple #[.agg #[], .bool false]) W := by kernel_rfl
theorem as_due_closes (W : World) : (Instr.typeAssert (.iface 69 (.agg #[])) 67 65 true).run Try.prog W = .ok (.tuple #[.agg #[], .bool false]) W := by kernel_rfl
theorem as_due_due (W : World) : (Instr.typeAssert (.iface 69 (.agg #[])) 67 69 true).run Try.prog W = .ok (.tuple #[.agg #[], .bool true]) W := by kernel_rfl
theorem as_due_sabm (W : World) : (Instr.typeAssert (.iface 69 (.agg #[])) 67 76 true).run Try.prog W = .ok (.tuple #[.agg #[.bool false], .bool false]) W := by kernel_rfl
theorem as_due_disc (W : World) : (Instr.typeAssert (.iface 69 (.agg #[])) 67 77 true).run Try.prog W = .ok (.tuple #[.agg #[.bool false], .bool false]) W := by kernel_rfl
theorem as_due_ua (W : World) : (Instr.typeAssert (.iface 69 (.agg #[])) 67 78 true).run Try.prog W = .ok (.tuple #[.agg #[.bool false], .bool false]) W := by kernel_rfl
theorem as_due_dm (W : World) : (Instr.typeAssert (.iface 69 (.agg #[])) 67 79 true).run Try.prog W = .ok (.tuple #[.agg #[.bool false], .bool false]) W := by kernel_rfl
theorem as_due_poll (W : World) : (Instr.typeAssert (.iface 69 (.agg #[])) 67 80 true).run Try.prog W = .ok (.tuple #[.agg #[.bool false], .bool false]) W := by kernel_rfl
theorem as_sabm_opens (p : Bool) (W : World) : (Instr.typeAssert (.iface 76 (.agg #[.bool p])) 67 64 true).run Try.prog W = .ok (.tuple #[.agg #[], .bool false]) W := by kernel_rfl
theorem as_sabm_closes (p : Bool) (W : World) : (Instr.typeAssert (.iface 76 (.agg #[.bool p])) 67 65 true).run Try.prog W = .ok (.tuple #[.agg #[], .bool false]) W := by kernel_rfl
theorem as_sabm_due (p : Bool) (W : World) : (Instr.typeAssert (.iface 76 (.agg #[.bool p])) 67 69 true).run Try.prog W = .ok (.tuple #[.agg #[], .bool false]) W := by kernel_rfl
theorem as_sabm_sabm (p : Bool) (W : World) : (Instr.typeAssert (.iface 76 (.agg #[.bool p])) 67 76 true).run Try.prog W = .ok (.tuple #[.agg #[.bool p], .bool true]) W := by kernel_rfl
theorem as_sabm_disc (p : Bool) (W : World) : (Instr.typeAssert (.iface 76 (.agg #[.bool p])) 67 77 true).run Try.prog W = .ok (.tuple #[.agg #[.bool false], .bool false]) W := by kernel_rfl
theorem as_sabm_ua (p : Bool) (W : World) : (Instr.typeAssert (.iface 76 (.agg #[.bool p])) 67 78 true).run Try.prog W = .ok (.tuple #[.agg #[.bool false], .bool false]) W := by kernel_rfl
theorem as_sabm_dm (p : Bool) (W : World) : (Instr.typeAssert (.iface 76 (.agg #[.bool p])) 67 79 true).run Try.prog W = .ok (.tuple #[.agg #[.bool false], .bool false]) W := by kernel_rfl
theorem as_sabm_poll (p : Bool) (W : World) : (Instr.typeAssert (.iface 76 (.agg #[.bool p])) 67 80 true).run Try.prog W = .ok (.tuple #[.agg #[.bool false], .bool false]) W := by kernel_rfl
theorem as_disc_opens (p : Bool) (W : World) : (Instr.typeAssert (.iface 77 (.agg #[.bool p])) 67 64 true).run Try.prog W = .ok (.tuple #[.agg #[], .bool false]) W := by kernel_rfl
theorem as_disc_closes (p : Bool) (W : World) : (Instr.typeAssert (.iface 77 (.agg #[.bool p])) 67 65 true).run Try.prog W = .ok (.tuple #[.agg #[], .bool false]) W := by kernel_rfl
theorem as_disc_due (p : Bool) (W : World) : (Instr.typeAssert (.iface 77 (.agg #[.bool p])) 67 69 true).run Try.prog W = .ok (.tuple #[.agg #[], .bool false]) W := by kernel_rfl
theorem as_disc_sabm (p : Bool) (W : World) : (Instr.typeAssert (.iface 77 (.agg #[.bool p])) 67 76 true).run Try.prog W = .ok (.tuple #[.agg #[.bool false], .bool false]) W := by kernel_rfl
theorem as_disc_disc (p : Bool) (W : World) : (Instr.typeAssert (.iface 77 (.agg #[.bool p])) 67 77 true).run Try.prog W = .ok (.tuple #[.agg #[.bool p], .bool true]) W := by kernel_rfl
theorem as_disc_ua (p : Bool) (W : World) : (Instr.typeAssert (.iface 77 (.agg #[.bool p])) 67 78 true).run Try.prog W = .ok (.tuple #[.agg #[.bool false], .bool false]) W := by kernel_rfl
theorem as_disc_dm (p : Bool) (W : World) : (Instr.typeAssert (.iface 77 (.agg #[.bool p])) 67 79 true).run Try.prog W = .ok (.tuple #[.agg #[.bool false], .bool false]) W := by kernel_rfl
theorem as_disc_poll (p : Bool) (W : World) : (Instr.typeAssert (.iface 77 (.agg #[.bool p])) 67 80 true).run Try.prog W = .ok (.tuple #[.agg #[.bool false], .bool false]) W := by kernel_rfl
theorem as_ua_opens (p : Bool) (W : World) : (Instr.typeAssert (.iface 78 (.agg #[.bool p])) 67 64 true).run Try.prog W = .ok (.tuple #[.agg #[], .bool false]) W := by kernel_rfl
theorem as_ua_closes (p : Bool) (W : World) : (Instr.typeAssert (.iface 78 (.agg #[.bool p])) 67 65 true).run Try.prog W = .ok (.tuple #[.agg #[], .bool false]) W := by kernel_rfl
theorem as_ua_due (p : Bool) (W : World) : (Instr.typeAssert (.iface 78 (.agg #[.bool p])) 67 69 true).run Try.prog W = .ok (.tuple #[.agg #[], .bool false]) W := by kernel_rfl
theorem as_ua_sabm (p : Bool) (W : World) : (Instr.typeAssert (.iface 78 (.agg #[.bool p])) 67 76 true).run Try.prog W = .ok (.tuple #[.agg #[.bool false], .bool false]) W := by kernel_rfl
theorem as_ua_disc (p : Bool) (W : World) : (Instr.typeAssert (.iface 78 (.agg #[.bool p])) 67 77 true).run Try.prog W = .ok (.tuple #[.agg #[.bool false], .bool false]) W := by kernel_rfl
theorem as_ua_ua (p : Bool) (W : World) : (Instr.typeAssert (.iface 78 (.agg #[.bool p])) 67 78 true).run Try.prog W = .ok (.tuple #[.agg #[.bool p], .bool true]) W := by kernel_rfl
theorem as_ua_dm (p : Bool) (W : World) : (Instr.typeAssert (.iface 78 (.agg #[.bool p])) 67 79 true).run Try.prog W = .ok (.tuple #[.agg #[.bool false], .bool false]) W := by kernel_rfl
theorem as_ua_poll (p : Bool) (W : World) : (Instr.typeAssert (.iface 78 (.agg #[.bool p])) 67 80 true).run Try.prog W = .ok (.tuple #[.agg #[.bool false], .bool false]) W := by kernel_rfl
theorem as_dm_opens (p : Bool) (W : World) : (Instr.typeAssert (.iface 79 (.agg #[.bool p])) 67 64 true).run Try.prog W = .ok (.tuple #[.agg #[], .bool false]) W := by kernel_rfl
theorem as_dm_closes (p : Bool) (W : World) : (Instr.typeAssert (.iface 79 (.agg #[.bool p])) 67 65 true).run Try.prog W = .ok (.tuple #[.agg #[], .bool false]) W := by kernel_rfl
theorem as_dm_due (p : Bool) (W : World) : (Instr.typeAssert (.iface 79 (.agg #[.bool p])) 67 69 true).run Try.prog W = .ok (.tuple #[.agg #[], .bool false]) W := by kernel_rfl
theorem as_dm_sabm (p : Bool) (W : World) : (Instr.typeAssert (.iface 79 (.agg #[.bool p])) 67 76 true).run Try.prog W = .ok (.tuple #[.agg #[.bool false], .bool false]) W := by kernel_rfl
theorem as_dm_disc (p : Bool) (W : World) : (Instr.typeAssert (.iface 79 (.agg #[.bool p])) 67 77 true).run Try.prog W = .ok (.tuple #[.agg #[.bool false], .bool false]) W := by kernel_rfl
theorem as_dm_ua (p : Bool) (W : World) : (Instr.typeAssert (.iface 79 (.agg #[.bool p])) 67 78 true).run Try.prog W = .ok (.tuple #[.agg #[.bool false], .bool false]) W := by kernel_rfl
theorem as_dm_dm (p : Bool) (W : World) : (Instr.typeAssert (.iface 79 (.agg #[.bool p])) 67 79 true).run Try.prog W = .ok (.tuple #[.agg #[.bool p], .bool true]) W := by kernel_rfl
theorem as_dm_poll (p : Bool) (W : World) : (Instr.typeAssert (.iface 79 (.agg #[.bool p])) 67 80 true).run Try.prog W = .ok (.tuple #[.agg #[.bool false], .bool false]) W := by kernel_rfl
theorem as_poll_opens (p : Bool) (W : World) : (Instr.typeAssert (.iface 80 (.agg #[.bool p])) 67 64 true).run Try.prog W = .ok (.tuple #[.agg #[], .bool false]) W := by kernel_rfl
theorem as_poll_closes (p : Bool) (W : World) : (Instr.typeAssert (.iface 80 (.agg #[.bool p])) 67 65 true).run Try.prog W = .ok (.tuple #[.agg #[], .bool false]) W := by kernel_rfl
theorem as_poll_due (p : Bool) (W : World) : (Instr.typeAssert (.iface 80 (.agg #[.bool p])) 67 69 true).run Try.prog W = .ok (.tuple #[.agg #[], .bool false]) W := by kernel_rfl
theorem as_poll_sabm (p : Bool) (W : World) : (Instr.typeAssert (.iface 80 (.agg #[.bool p])) 67 76 true).run Try.prog W = .ok (.tuple #[.agg #[.bool false], .bool false]) W := by kernel_rfl
theorem as_poll_disc (p : Bool) (W : World) : (Instr.typeAssert (.iface 80 (.agg #[.bool p])) 67 77 true).run Try.prog W = .ok (.tuple #[.agg #[.bool false], .bool false]) W := by kernel_rfl
theorem as_poll_ua (p : Bool) (W : World) : (Instr.typeAssert (.iface 80 (.agg #[.bool p])) 67 78 true).run Try.prog W = .ok (.tuple #[.agg #[.bool false], .bool false]) W := by kernel_rfl
theorem as_poll_dm (p : Bool) (W : World) : (Instr.typeAssert (.iface 80 (.agg #[.bool p])) 67 79 true).run Try.prog W = .ok (.tuple #[.agg #[.bool false], .bool false]) W := by kernel_rfl
theorem as_poll_poll (p : Bool) (W : World) : (Instr.typeAssert (.iface 80 (.agg #[.bool p])) 67 80 true).run Try.prog W = .ok (.tuple #[.agg #[.bool p], .bool true]) W := by kernel_rfl
theorem as_noise_opens (W : World) : (Instr.typeAssert (.iface 81 (.agg #[])) 67 64 true).run Try.prog W = .ok (.tuple #[.agg #[], .bool false]) W := by kernel_rfl
theorem as_noise_closes (W : World) : (Instr.typeAssert (.iface 81 (.agg #[])) 67 65 true).run Try.prog W = .ok (.tuple #[.agg #[], .bool false]) W := by kernel_rfl
theorem as_noise_due (W : World) : (Instr.typeAssert (.iface 81 (.agg #[])) 67 69 true).run Try.prog W = .ok (.tuple #[.agg #[], .bool false]) W := by kernel_rfl
theorem as_noise_sabm (W : World) : (Instr.typeAssert (.iface 81 (.agg #[])) 67 76 true).run Try.prog W = .ok (.tuple #[.agg #[.bool false], .bool false]) W := by kernel_rfl
theorem as_noise_disc (W : World) : (Instr.typeAssert (.iface 81 (.agg #[])) 67 77 true).run Try.prog W = .ok (.tuple #[.agg #[.bool false], .bool false]) W := by kernel_rfl
theorem as_noise_ua (W : World) : (Instr.typeAssert (.iface 81 (.agg #[])) 67 78 true).run Try.prog W = .ok (.tuple #[.agg #[.bool false], .bool false]) W := by kernel_rfl
theorem as_noise_dm (W : World) : (Instr.typeAssert (.iface 81 (.agg #[])) 67 79 true).run Try.prog W = .ok (.tuple #[.agg #[.bool false], .bool false]) W := by kernel_rfl
theorem as_noise_poll (W : World) : (Instr.typeAssert (.iface 81 (.agg #[])) 67 80 true).run Try.prog W = .ok (.tuple #[.agg #[.bool false], .bool false]) W := by kernel_rfl
end Go.Proofs.Ytfflbaiddiahnaa.Lk
