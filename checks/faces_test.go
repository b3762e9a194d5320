package checks

import (
	"iter"

	"escutcheon/aead"
	"escutcheon/api"
	"escutcheon/attest"
	"escutcheon/blake"
	"escutcheon/cert"
	"escutcheon/chacha"
	"escutcheon/channel"
	"escutcheon/cipher"
	"escutcheon/console"
	"escutcheon/der"
	"escutcheon/disk"
	"escutcheon/edwards"
	"escutcheon/field"
	"escutcheon/frame"
	"escutcheon/hkdf"
	"escutcheon/judge"
	"escutcheon/keeper"
	"escutcheon/keystore"
	"escutcheon/ladder"
	"escutcheon/model"
	"escutcheon/noise"
	"escutcheon/policy"
	"escutcheon/poly"
	"escutcheon/scalar"
	"escutcheon/script"
	"escutcheon/seal"
	"escutcheon/session"
	"escutcheon/sha"
	"escutcheon/sign"
	"escutcheon/terms"
	"escutcheon/window"
	"escutcheon/wire"
	"escutcheon/world"
)

// The calls that the chapters list, each with its signature: this file builds as long as they are there.

// Layer wire.
var (
	_ func(uint64, int) ([]byte, api.Errno) = wire.Put
	_ func([]byte) (uint64, api.Errno)      = wire.Get
	_ func([]byte) ([]byte, api.Errno)      = wire.Blob
	_ func(...[]byte) []byte                = wire.Join
	_ func([]byte) *wire.Reader             = wire.Read
	_ func(*wire.Reader, int) uint64        = (*wire.Reader).Number
	_ func(*wire.Reader, int) []byte        = (*wire.Reader).Bytes
	_ func(*wire.Reader) []byte             = (*wire.Reader).Blob
	_ func(*wire.Reader) api.Key            = (*wire.Reader).Key
	_ func(*wire.Reader) int                = (*wire.Reader).Left
	_ func(*wire.Reader) api.Errno          = (*wire.Reader).End
	_ func([]byte) string                   = wire.Hex
	_ func(string) ([]byte, api.Errno)      = wire.OfHex
)

// Layer field.
var (
	_ func(api.Key) field.Elem                                    = field.Of
	_ func(uint64) field.Elem                                     = field.Small
	_ func(field.Elem) api.Key                                    = field.Elem.Bytes
	_ func(field.Elem, field.Elem) field.Elem                     = field.Elem.Add
	_ func(field.Elem, field.Elem) field.Elem                     = field.Elem.Sub
	_ func(field.Elem, field.Elem) field.Elem                     = field.Elem.Mul
	_ func(field.Elem) field.Elem                                 = field.Elem.Square
	_ func(field.Elem) field.Elem                                 = field.Elem.Neg
	_ func(field.Elem) field.Elem                                 = field.Elem.Inv
	_ func(field.Elem, api.Key) field.Elem                        = field.Elem.Power
	_ func(field.Elem, field.Elem) (field.Elem, bool)             = field.Root
	_ func(field.Elem, field.Elem, bool) field.Elem               = field.Select
	_ func(field.Elem, field.Elem, bool) (field.Elem, field.Elem) = field.Swap
	_ func(field.Elem, field.Elem) bool                           = field.Equal
	_ func(field.Elem) bool                                       = field.Elem.Odd
	_ func(api.Key) bool                                          = field.Canonical
)

// Layer scalar.
var (
	_ func(api.Key) bool                      = scalar.May
	_ func(api.Long) api.Key                  = scalar.Reduce
	_ func(api.Key, api.Key, api.Key) api.Key = scalar.MulAdd
	_ func(api.Key, api.Key) api.Key          = scalar.Add
	_ func(api.Key) api.Key                   = scalar.Neg
	_ func(api.Key) api.Key                   = scalar.Clamp
	_ func() api.Key                          = scalar.Order
)

// Layer ladder.
var (
	_ func(api.Key) api.Key                       = ladder.Public
	_ func(api.Key, api.Key) (api.Key, api.Errno) = ladder.Shared
	_ func(api.Key, api.Key) api.Key              = ladder.Mul
)

// Layer sha.
var (
	_ func(...[]byte) api.Long = sha.Sum
	_ func(int) uint64         = sha.Start
	_ func(int) uint64         = sha.Constant
)

// Layer edwards.
var (
	_ func(api.Key) (edwards.Point, bool)              = edwards.Of
	_ func(edwards.Point) api.Key                      = edwards.Point.Bytes
	_ func(edwards.Point, edwards.Point) edwards.Point = edwards.Point.Add
	_ func(edwards.Point) edwards.Point                = edwards.Point.Neg
	_ func(edwards.Point, api.Key) edwards.Point       = edwards.Point.Mul
	_ func(api.Key) edwards.Point                      = edwards.Base
	_ func(edwards.Point, edwards.Point) bool          = edwards.Equal
	_ func(edwards.Point) api.Key                      = edwards.Point.X
	_ func(edwards.Point) api.Key                      = edwards.Point.Y
)

// Layer sign.
var (
	_ func(api.Key) api.Key                        = sign.Public
	_ func(api.Key, ...[]byte) api.Long            = sign.Sign
	_ func(api.Key, api.Long, ...[]byte) api.Errno = sign.Check
)

// Layer chacha.
var (
	_ func(api.Key, uint32, [12]byte) api.Long       = chacha.Block
	_ func(api.Key, uint32, [12]byte, []byte) []byte = chacha.Xor
)

// Layer poly.
var (
	_ func(api.Key, ...[]byte) [16]byte = poly.Tag
	_ func([16]byte, [16]byte) bool     = poly.Equal
)

// Layer aead.
var (
	_ func(api.Key, [12]byte, []byte, []byte) []byte              = aead.Seal
	_ func(api.Key, [12]byte, []byte, []byte) ([]byte, api.Errno) = aead.Open
	_ func(uint64) [12]byte                                       = aead.Nonce
)

// Layer blake.
var (
	_ func(...[]byte) api.Key = blake.Sum
	_ func(int) [16]int       = blake.Order
	_ func(int) uint32        = blake.Start
)

// Layer hkdf.
var (
	_ func([]byte, ...[]byte) api.Key                   = hkdf.Mac
	_ func(api.Key, []byte) (api.Key, api.Key)          = hkdf.Two
	_ func(api.Key, []byte) (api.Key, api.Key, api.Key) = hkdf.Three
	_ func(api.Key, string) api.Key                     = hkdf.Named
)

// Layer der.
var (
	_ func(api.Der) ([]byte, api.Errno) = der.Bytes
	_ func([]byte) (api.Der, api.Errno) = der.Of
	_ func(api.Der) bool                = der.May
	_ func(api.Der, api.Der) bool       = der.Same
	_ func(int64) api.Der               = der.Int
	_ func(string) api.Der              = der.Text
	_ func([]byte) api.Der              = der.Octets
	_ func([]byte) api.Der              = der.Bits
	_ func(...uint64) api.Der           = der.Oid
	_ func(...api.Der) api.Der          = der.Seq
	_ func(int, api.Der) api.Der        = der.Tag
	_ func(api.Der) api.Der             = der.Set
)

// Layer disk.
var (
	_ func(int) (*disk.Disk, api.Errno)          = disk.New
	_ func(*disk.Disk) int                       = (*disk.Disk).Blocks
	_ func(*disk.Disk, int) ([]byte, api.Errno)  = (*disk.Disk).Read
	_ func(*disk.Disk, int, []byte) api.Errno    = (*disk.Disk).Write
	_ func(*disk.Disk) api.Errno                 = (*disk.Disk).Sync
	_ func(*disk.Disk, int) api.Errno            = (*disk.Disk).SetFuse
	_ func(*disk.Disk) bool                      = (*disk.Disk).Dead
	_ func(*disk.Disk) int                       = (*disk.Disk).Unsynced
	_ func(*disk.Disk, ...int) api.Errno         = (*disk.Disk).Crash
	_ func(*disk.Disk, int, int, byte) api.Errno = (*disk.Disk).Edit
	_ func(*disk.Disk) *disk.Disk                = (*disk.Disk).Copy
	_ func(*disk.Disk, *disk.Disk) bool          = (*disk.Disk).Same
)

// Layer seal.
var (
	_ func() *seal.Counter                                                = seal.NewCounter
	_ func(*seal.Counter, uint64) api.Errno                               = (*seal.Counter).Raise
	_ func(*seal.Counter) uint64                                          = (*seal.Counter).Value
	_ func(*seal.Counter) *seal.Counter                                   = (*seal.Counter).Copy
	_ func(*disk.Disk, *seal.Counter, api.Key) (*seal.Journal, api.Errno) = seal.Open
	_ func(*seal.Journal) []byte                                          = (*seal.Journal).Snapshot
	_ func(*seal.Journal) iter.Seq2[uint64, []byte]                       = (*seal.Journal).Changes
	_ func(*seal.Journal, []byte) api.Errno                               = (*seal.Journal).Turn
	_ func(*seal.Journal, []byte) api.Errno                               = (*seal.Journal).Put
	_ func(*seal.Journal) uint64                                          = (*seal.Journal).Last
	_ func(*seal.Journal) int                                             = (*seal.Journal).Room
	_ func(*seal.Journal) bool                                            = (*seal.Journal).Dead
	_ func(int) int                                                       = seal.Need
)

// Layer cipher.
var (
	_ func(api.Key) *cipher.Cipher                             = cipher.New
	_ func() *cipher.Cipher                                    = cipher.None
	_ func(*cipher.Cipher, []byte, []byte) ([]byte, api.Errno) = (*cipher.Cipher).Seal
	_ func(*cipher.Cipher, []byte, []byte) ([]byte, api.Errno) = (*cipher.Cipher).Open
	_ func(*cipher.Cipher)                                     = (*cipher.Cipher).Rekey
	_ func(*cipher.Cipher, uint64)                             = (*cipher.Cipher).SetN
	_ func(*cipher.Cipher) uint64                              = (*cipher.Cipher).N
	_ func(*cipher.Cipher) bool                                = (*cipher.Cipher).Has
	_ func(*cipher.Cipher) *cipher.Cipher                      = (*cipher.Cipher).Copy
	_ func(string) *cipher.State                               = cipher.Begin
	_ func(*cipher.State, []byte)                              = (*cipher.State).MixHash
	_ func(*cipher.State, []byte)                              = (*cipher.State).MixKey
	_ func(*cipher.State, []byte) ([]byte, api.Errno)          = (*cipher.State).Seal
	_ func(*cipher.State, []byte) ([]byte, api.Errno)          = (*cipher.State).Open
	_ func(*cipher.State) (*cipher.Cipher, *cipher.Cipher)     = (*cipher.State).Split
	_ func(*cipher.State) api.Key                              = (*cipher.State).Hash
	_ func(*cipher.State) api.Key                              = (*cipher.State).Chain
	_ func(*cipher.State) *cipher.State                        = (*cipher.State).Copy
)

// Layer noise.
var (
	_ func(api.Key, api.Key, []byte) *noise.Side                             = noise.Call
	_ func(api.Key, []byte) *noise.Side                                      = noise.Answer
	_ func(*noise.Side, api.Key, []byte) ([]byte, api.Errno)                 = (*noise.Side).Write
	_ func(*noise.Side, []byte) ([]byte, api.Errno)                          = (*noise.Side).Read
	_ func(*noise.Side) (api.Key, bool)                                      = (*noise.Side).Remote
	_ func(*noise.Side) (*cipher.Cipher, *cipher.Cipher, api.Key, api.Errno) = (*noise.Side).Split
	_ func(*noise.Side) bool                                                 = (*noise.Side).Done
	_ func(*noise.Side) *noise.Side                                          = (*noise.Side).Copy
)

// Layer window.
var (
	_ func() *window.Window                  = window.New
	_ func(*window.Window, uint64) api.Errno = (*window.Window).Check
	_ func(*window.Window, uint64) api.Errno = (*window.Window).Take
	_ func(*window.Window) (uint64, bool)    = (*window.Window).Greatest
	_ func(*window.Window, uint64) bool      = (*window.Window).Came
	_ func(*window.Window) *window.Window    = (*window.Window).Copy
)

// Layer channel.
var (
	_ func(*cipher.Cipher, *cipher.Cipher, api.Key) *channel.Channel = channel.New
	_ func(*channel.Channel, []byte) ([]byte, api.Errno)             = (*channel.Channel).Seal
	_ func(*channel.Channel, []byte) ([]byte, uint64, api.Errno)     = (*channel.Channel).Open
	_ func(*channel.Channel) uint64                                  = (*channel.Channel).Sent
	_ func(*channel.Channel) (uint64, bool)                          = (*channel.Channel).Greatest
	_ func(*channel.Channel) api.Key                                 = (*channel.Channel).Hash
	_ func(*channel.Channel) *channel.Channel                        = (*channel.Channel).Copy
	_ func(*cipher.Cipher, uint64) (*cipher.Cipher, api.Errno)       = channel.Key
)

// Layer frame.
var (
	_ func(api.Frame) ([]byte, api.Errno) = frame.FrameBytes
	_ func([]byte) (api.Frame, api.Errno) = frame.FrameOf
	_ func(api.Cmd) ([]byte, api.Errno)   = frame.CmdBytes
	_ func([]byte) (api.Cmd, api.Errno)   = frame.CmdOf
	_ func(api.Reply) ([]byte, api.Errno) = frame.ReplyBytes
	_ func([]byte) (api.Reply, api.Errno) = frame.ReplyOf
	_ func(api.Frame) bool                = frame.MayFrame
	_ func(api.Cmd) bool                  = frame.MayCmd
	_ func(api.Reply) bool                = frame.MayReply
	_ func(api.Cmd, api.Cmd) bool         = frame.SameCmd
	_ func(api.Reply, api.Reply) bool     = frame.SameReply
	_ func(api.CmdKind) string            = frame.Names
)

// Layer policy.
var (
	_ func(api.Card) bool                                        = policy.MayCard
	_ func(api.Type) api.Attr                                    = policy.OfType
	_ func(api.Card) bool                                        = policy.Kept
	_ func(api.Card, api.CmdKind) api.Errno                      = policy.Asked
	_ func(api.Card, api.Card) api.Errno                         = policy.Wraps
	_ func(api.Origin, api.Type, api.Attr) (api.Card, api.Errno) = policy.New
	_ func(api.Card, api.Type, api.Attr) (api.Card, api.Errno)   = policy.Derived
	_ func(api.Card, api.Card, api.Attr) (api.Card, api.Errno)   = policy.Unwrapped
	_ func(api.Card, api.Attr) (api.Card, api.Errno)             = policy.Lower
	_ func(api.Attr) string                                      = policy.Text
)

// Layer keystore.
var (
	_ func() *keystore.Store                                          = keystore.New
	_ func(*keystore.Store, api.Cmd, api.Key) (api.Reply, api.Change) = (*keystore.Store).Plan
	_ func(*keystore.Store, api.Change) api.Errno                     = (*keystore.Store).Apply
	_ func(*keystore.Store, uint32) (api.Card, api.Errno)             = (*keystore.Store).Card
	_ func(*keystore.Store, uint32) (api.Key, api.Errno)              = (*keystore.Store).Public
	_ func(*keystore.Store, uint32) (api.Key, api.Errno)              = (*keystore.Store).Secret
	_ func(*keystore.Store) iter.Seq2[uint32, api.Card]               = (*keystore.Store).Keys
	_ func(*keystore.Store) int                                       = (*keystore.Store).Len
	_ func(*keystore.Store) uint32                                    = (*keystore.Store).Next
	_ func(*keystore.Store) *keystore.Store                           = (*keystore.Store).Copy
	_ func(*keystore.Store, *keystore.Store) bool                     = (*keystore.Store).Same
	_ func(*keystore.Store) []byte                                    = (*keystore.Store).Bytes
	_ func([]byte) (*keystore.Store, api.Errno)                       = keystore.Of
	_ func(api.Change) ([]byte, api.Errno)                            = keystore.ChangeBytes
	_ func([]byte) (api.Change, api.Errno)                            = keystore.ChangeOf
	_ func(api.Card) []byte                                           = keystore.CardBytes
	_ func(api.Type, api.Key) api.Key                                 = keystore.Public
)

// Layer attest.
var (
	_ func(api.Statement) bool                         = attest.May
	_ func(api.Statement) ([]byte, api.Errno)          = attest.Bytes
	_ func([]byte) (api.Statement, api.Errno)          = attest.Of
	_ func(api.Key, api.Statement) ([]byte, api.Errno) = attest.Make
	_ func(api.Key, []byte) (api.Statement, api.Errno) = attest.Verify
	_ func(api.Statement, api.Statement) bool          = attest.Same
	_ func(api.Statement) []string                     = attest.Says
)

// Layer cert.
var (
	_ func(api.Key) []byte                                     = cert.Root
	_ func(api.Key, api.Statement) ([]byte, api.Errno)         = cert.Issue
	_ func(api.Key, []byte, []byte) (api.Statement, api.Errno) = cert.Verify
	_ func([]byte) ([]byte, api.Errno)                         = cert.Body
)

// Layer session.
var (
	_ func(api.Key, []api.Key) (*session.Hall, api.Errno)                      = session.New
	_ func(*session.Hall, []byte, api.Key, uint64) (uint32, []byte, api.Errno) = (*session.Hall).Hello
	_ func(*session.Hall, uint32, []byte, uint64) (api.Asked, api.Errno)       = (*session.Hall).Data
	_ func(*session.Hall, uint32, []byte, uint64) ([]byte, api.Errno)          = (*session.Hall).Tell
	_ func(*session.Hall, uint32, uint64) ([]byte, api.Errno)                  = (*session.Hall).Repeat
	_ func(*session.Hall) api.Key                                              = (*session.Hall).Public
	_ func(*session.Hall) int                                                  = (*session.Hall).Len
	_ func(*session.Hall, uint32) (int, bool)                                  = (*session.Hall).Client
	_ func(*session.Hall, uint32) (uint64, bool)                               = (*session.Hall).Due
	_ func(*session.Hall, uint64)                                              = (*session.Hall).Pass
	_ func(*session.Hall) *session.Hall                                        = (*session.Hall).Copy
)

// Layer model.
var (
	_ func() *model.Model                                        = model.New
	_ func(*model.Model, api.Cmd, api.Reply, api.Card) bool      = (*model.Model).May
	_ func(*model.Model, api.Cmd, api.Reply, api.Card) api.Errno = (*model.Model).Go
	_ func(*model.Model, uint32) (api.Card, bool)                = (*model.Model).Card
	_ func(*model.Model, uint32) int                             = (*model.Model).Identity
	_ func(*model.Model, int) bool                               = (*model.Model).Kept
	_ func(*model.Model) iter.Seq2[uint32, api.Card]             = (*model.Model).Keys
	_ func(*model.Model) uint32                                  = (*model.Model).Next
	_ func(*model.Model) *model.Model                            = (*model.Model).Copy
	_ func(*model.Model, *model.Model) bool                      = (*model.Model).Same
)

// Layer keeper.
var (
	_ func(*disk.Disk, *seal.Counter, api.Config) (*keeper.Keeper, api.Errno) = keeper.Up
	_ func(*keeper.Keeper, []byte, api.Key, uint64) (api.Outcome, api.Errno)  = (*keeper.Keeper).Handle
	_ func(*keeper.Keeper, uint64)                                            = (*keeper.Keeper).Pass
	_ func(*keeper.Keeper) *keystore.Store                                    = (*keeper.Keeper).Store
	_ func(*keeper.Keeper) *session.Hall                                      = (*keeper.Keeper).Hall
	_ func(*keeper.Keeper) bool                                               = (*keeper.Keeper).Dead
	_ func(*keeper.Keeper) api.Key                                            = (*keeper.Keeper).Public
	_ func(*keeper.Keeper) api.Key                                            = (*keeper.Keeper).Device
)

// Layer world.
var (
	_ func(api.Setting) (*world.World, api.Errno)             = world.New
	_ func(*world.World, api.Act) (api.Entry, api.Errno)      = (*world.World).Act
	_ func(*world.World) *keeper.Keeper                       = (*world.World).Keeper
	_ func(*world.World) [][]byte                             = (*world.World).Wire
	_ func(*world.World) []api.Entry                          = (*world.World).Entries
	_ func(*world.World, int) []api.Cmd                       = (*world.World).Sent
	_ func(*world.World, int) []api.Reply                     = (*world.World).Replies
	_ func(*world.World) int                                  = (*world.World).Lines
	_ func(*world.World) uint64                               = (*world.World).Counter
	_ func(*world.World) api.Key                              = (*world.World).Device
	_ func(api.Setting, ...api.Act) (*world.World, api.Errno) = world.Run
)

// Layer terms.
var (
	_ func(api.Term) bool                       = terms.May
	_ func(api.Term, api.Term) bool             = terms.Same
	_ func(api.Term) api.Term                   = terms.Order
	_ func(...api.Term) ([]api.Term, api.Errno) = terms.Learn
	_ func(api.Term, ...api.Term) bool          = terms.Can
	_ func(api.Term) iter.Seq[api.Term]         = terms.Parts
	_ func(api.Term) (string, api.Errno)        = terms.Text
	_ func(string) (api.Term, api.Errno)        = terms.Of
)

// Layer judge.
var (
	_ func(*world.World) bool                 = judge.Model
	_ func(*world.World) bool                 = judge.Beginning
	_ func(*world.World, []byte) bool         = judge.Statement
	_ func(*world.World, []byte, []byte) bool = judge.Chain
	_ func(*world.World) bool                 = judge.Secret
	_ func(*world.World) []api.Event          = judge.Events
)

// Layer script.
var (
	_ func(api.Act) bool                        = script.MayAct
	_ func(api.Act) (string, api.Errno)         = script.ActText
	_ func(string) (api.Act, api.Errno)         = script.ActOf
	_ func(api.Cmd) (string, api.Errno)         = script.CmdText
	_ func(string) (api.Cmd, api.Errno)         = script.CmdOf
	_ func(api.Reply) string                    = script.ReplyText
	_ func(api.Script) (string, api.Errno)      = script.Text
	_ func(string) (api.Script, int, api.Errno) = script.Parse
	_ func(api.Script, api.Script) bool         = script.Same
	_ func() iter.Seq2[api.ActKind, string]     = script.Names
)

// Layer console.
var (
	_ func() *console.Console                            = console.New
	_ func(*console.Console, string) []string            = (*console.Console).Say
	_ func(*console.Console, string) (string, api.Errno) = (*console.Console).Run
	_ func(*console.Console) bool                        = (*console.Console).Begun
)
